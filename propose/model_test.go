package propose

import (
	"math/rand"
	"slices"
	"testing"

	"chatelaine/api"
	"chatelaine/ballot"
	"chatelaine/grid"
	"chatelaine/msg"
)

// model is a proposer as the chapter describes it: it stores the messages, and
// derives everything else from them.
type model struct {
	c         grid.Config
	role      int
	b         ballot.Ballot
	from      int
	promises  []msg.Msg // those that count
	next      int
	caught    int
	proposals []msg.Entry
	votes     map[int][]int // the nodes that have voted for a slot
}

// texts reports whether a node stores texts.
func (x *model) texts(n int) bool { return !slices.Contains(grid.List(x.c.Witness), n) }

func (x *model) try(b ballot.Ballot, from int) {
	*x = model{c: x.c, role: Trying, b: b, from: from, votes: map[int][]int{}}
}

func (x *model) promised(m msg.Msg) bool {
	if x.role != Trying || m.Ballot != x.b || m.From < 0 || m.From >= x.c.Len() {
		return false
	}
	for _, o := range x.promises {
		if o.From == m.From {
			return false
		}
	}
	x.promises = append(x.promises, m)
	return true
}

func (x *model) needs() (int, int) {
	base, node := 0, -1
	for _, m := range x.promises {
		if x.texts(m.From) && m.Slot > base {
			base, node = m.Slot, m.From
		}
	}
	return base, node
}

// found returns the entry that counts for a slot.
func (x *model) found(slot int) (msg.Entry, bool) {
	var l []msg.Entry
	for _, m := range x.promises {
		for _, e := range m.List {
			if x.texts(m.From) && e.Slot == slot && slot >= x.from {
				l = append(l, e)
			}
		}
	}
	if len(l) == 0 {
		return msg.Entry{}, false
	}
	// MaxFunc returns the first one of several.
	return slices.MaxFunc(l, func(a, b msg.Entry) int { return ballot.Compare(a.Ballot, b.Ballot) }), true
}

func (x *model) lead(learned, greatest int) []msg.Entry {
	var set uint32
	for _, m := range x.promises {
		set |= 1 << m.From
	}
	if base, _ := x.needs(); x.role != Trying || !x.c.IsFirst(set) || learned < base {
		return nil
	}
	x.caught = learned
	for slot := learned + 1; slot <= greatest; slot++ {
		if _, is := x.found(slot); is {
			x.caught = slot
		}
	}
	for slot := learned + 1; slot <= x.caught; slot++ {
		e, _ := x.found(slot)
		x.proposals = append(x.proposals, msg.Entry{Slot: slot, Ballot: x.b, Text: e.Text})
	}
	x.role, x.next = Owner, x.caught+1
	return slices.Clone(x.proposals)
}

func (x *model) propose(text string) (msg.Entry, api.Errno) {
	switch {
	case x.role != Owner:
		return msg.Entry{}, api.ErrOwner
	case len(x.proposals) >= 4:
		return msg.Entry{}, api.ErrBusy
	case x.next > 1<<40:
		return msg.Entry{}, api.ErrExhausted
	}
	e := msg.Entry{Slot: x.next, Ballot: x.b, Text: text}
	x.proposals = append(x.proposals, e)
	x.next++
	return e, api.OK
}

func (x *model) accepted(m msg.Msg) (msg.Entry, bool) {
	i := slices.IndexFunc(x.proposals, func(e msg.Entry) bool { return e.Slot == m.Slot })
	if x.role != Owner || m.Ballot != x.b || i < 0 {
		return msg.Entry{}, false
	}
	x.votes[m.Slot] = append(x.votes[m.Slot], m.From)
	if !x.c.IsSecond(grid.Set(x.votes[m.Slot]...)) {
		return msg.Entry{}, false
	}
	e := x.proposals[i]
	x.proposals = slices.Delete(x.proposals, i, i+1)
	return e, true
}

func (x *model) refused(m msg.Msg) bool {
	if x.role == Idle || ballot.Compare(m.Ballot, x.b) <= 0 {
		return false
	}
	x.stop()
	return true
}

func (x *model) stop() { x.role, x.next, x.caught, x.proposals = Idle, 0, 0, nil }

// greatest is the greatest slot above the first one in the messages of anyMsg.
const greatest = 9

// anyMsg returns a message with numbers that often meet those of others.
func anyMsg(g *rand.Rand, x *model, first int) msg.Msg {
	m := msg.Msg{From: g.Intn(x.c.Len()+2) - 1, Ballot: x.b, Slot: g.Intn(first + 1)}
	if g.Intn(5) == 0 {
		m.Ballot = ballot.Ballot{C: x.b.C + uint64(g.Intn(2)), N: g.Intn(3)}
	}
	for slot := range greatest + 1 {
		if g.Intn(4) == 0 {
			m.List = append(m.List, msg.Entry{Slot: first + slot, Ballot: ballot.Ballot{C: uint64(1 + g.Intn(3)), N: g.Intn(3)}, Text: string(rune('a' + g.Intn(26)))})
		}
	}
	return m
}

// call makes one call of the proposer and of the model.
func call(t *testing.T, g *rand.Rand, p *Proposer, x *model, first int) {
	t.Helper()
	m := anyMsg(g, x, first)
	switch g.Intn(13) {
	case 0:
		if g.Intn(4) == 0 {
			b := ballot.Ballot{C: uint64(4 + g.Intn(3)), N: g.Intn(3)}
			from := first + g.Intn(4)
			p.Try(b, from)
			x.try(b, from)
		}
	case 1, 2, 3:
		if got, want := p.Promised(m), x.promised(m); got != want {
			t.Fatalf("%v: %v", m, got)
		}
	case 4, 5:
		learned := first + g.Intn(5) - 1
		if got, want := p.Lead(learned), x.lead(learned, first+greatest); !slices.Equal(got, want) {
			t.Fatalf("Lead(%d): %v, not %v", learned, got, want)
		}
	case 6, 7:
		got, e := p.Propose("text")
		if want, f := x.propose("text"); got != want || e != f {
			t.Fatalf("%v, %d, not %v, %d", got, e, want, f)
		}
	case 8, 9, 10, 11:
		m.Slot = first + g.Intn(greatest+6)
		if len(x.proposals) > 0 && g.Intn(3) > 0 {
			m.Slot = x.proposals[g.Intn(min(2, len(x.proposals)))].Slot
		}
		got, is := p.Accepted(m)
		if want, was := x.accepted(m); got != want || is != was {
			t.Fatalf("%v, %v, not %v, %v", got, is, want, was)
		}
	case 12:
		if g.Intn(20) == 0 {
			p.Stop()
			x.stop()
		} else if got, want := p.Refused(m), x.refused(m); got != want {
			t.Fatalf("%v: %v", m, got)
		}
	}
}

// P18.1: after any calls, a proposer is the model.
func TestAnyCalls(t *testing.T) {
	g := rand.New(rand.NewSource(1))
	owners, chosen := 0, 0
	for i := range 2000 {
		c := configs()[i%len(configs())]
		first := []int{1, 7, api.MaxSlot - 8}[g.Intn(3)]
		p, x := New(c, 0), &model{c: c, votes: map[int][]int{}}
		for range 200 {
			before := len(x.proposals)
			call(t, g, p, x, first)
			is(t, p, x.role, x.b, x.next, x.caught, x.proposals...)
			base, node := x.needs()
			needs(t, p, base, node)
			if x.role == Owner {
				owners++
				chosen += max(0, before-len(x.proposals))
			}
		}
	}
	if owners < 1000 || chosen < 1000 {
		t.Errorf("%d calls of an owner, and %d proposals chosen", owners, chosen)
	}
}
