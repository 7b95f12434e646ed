package accept

import (
	"math/rand"
	"slices"
	"testing"

	"chatelaine/api"
	"chatelaine/ballot"
	"chatelaine/code"
	"chatelaine/msg"
)

// model is the state of an acceptor, as the chapter describes it.
type model struct {
	witness  bool
	promised ballot.Ballot
	base     int
	entries  map[int]msg.Entry
	node     int // -1 if there is no grant
	end      int
}

// list returns the entries of the slots from one on.
func (x *model) list(from int) []msg.Entry {
	var l []msg.Entry
	for slot, e := range x.entries {
		if slot >= from {
			l = append(l, e)
		}
	}
	slices.SortFunc(l, func(a, b msg.Entry) int { return a.Slot - b.Slot })
	return l
}

// granted reports whether another node than from has a grant at now.
func (x *model) granted(from, now int) bool { return x.node >= 0 && x.node != from && now < x.end }

// less reports whether the ballot of m is less than the promised one.
func (x *model) less(m msg.Msg) bool {
	b, p := m.Ballot, x.promised
	return b.C < p.C || b.C == p.C && b.N < p.N
}

func (x *model) prepare(m msg.Msg, now int) msg.Msg {
	if x.granted(m.From, now) {
		return msg.Msg{Kind: msg.Refuse, Ballot: x.promised, Time: x.end - now}
	}
	if x.less(m) {
		return msg.Msg{Kind: msg.Refuse, Ballot: x.promised}
	}
	x.promised = m.Ballot
	return msg.Msg{Kind: msg.Promise, Ballot: m.Ballot, Slot: x.base, List: x.list(m.Slot)}
}

func (x *model) accept(m msg.Msg) msg.Msg {
	if x.less(m) {
		return msg.Msg{Kind: msg.Refuse, Ballot: x.promised}
	}
	_, is := x.entries[m.Slot]
	if m.Slot > x.base && !is && len(x.entries) == msg.MaxList {
		return msg.Msg{}
	}
	x.promised = m.Ballot
	if m.Slot > x.base {
		text := m.Text
		if x.witness {
			text = Digest(text)
		}
		x.entries[m.Slot] = msg.Entry{Slot: m.Slot, Ballot: m.Ballot, Text: text}
	}
	return msg.Msg{Kind: msg.Accepted, Ballot: m.Ballot, Slot: m.Slot}
}

func (x *model) ask(m msg.Msg, now, long int) msg.Msg {
	if x.less(m) {
		return msg.Msg{Kind: msg.Refuse, Ballot: x.promised}
	}
	if x.granted(m.From, now) {
		return msg.Msg{Kind: msg.Refuse, Ballot: x.promised, Time: x.end - now}
	}
	x.promised = m.Ballot
	end := min(now+long, api.MaxTime)
	if x.node != m.From || end > x.end {
		x.node, x.end = m.From, end
	}
	return msg.Msg{Kind: msg.Grant, Ballot: m.Ballot, Time: m.Time}
}

func (x *model) trim(base int) bool {
	if base <= x.base {
		return false
	}
	x.base = base
	for slot := range base + 1 {
		delete(x.entries, slot)
	}
	return true
}

// text returns the state as bytes.
func (x *model) text() string {
	var w code.Writer
	w.U(x.promised.C).N(x.promised.N, x.base, len(x.entries))
	for _, e := range x.list(0) {
		w.N(e.Slot).U(e.Ballot.C).N(e.Ballot.N).S(e.Text)
	}
	return w.N(x.node+1, x.end).Text()
}

// check fails unless the acceptor has the state of the model.
func (x *model) check(t *testing.T, a *Acceptor) {
	t.Helper()
	if a.Witness() != x.witness || a.Promised() != x.promised || a.Base() != x.base {
		t.Fatalf("%v is not %v", *a, *x)
	}
	lists(t, a, x.list(0)...)
	holds(t, a, x.node, x.end)
	if got := put(a); got != x.text() {
		t.Fatalf("%x, not %x", got, x.text())
	}
}

// anyMsg returns a message with numbers that often meet those of others.
func anyMsg(g *rand.Rand) msg.Msg {
	m := of(g.Intn(4), uint64(1+g.Intn(6)), g.Intn(4))
	if g.Intn(3) > 0 {
		m.Ballot.N = m.From
	}
	if g.Intn(30) == 0 {
		m.Ballot = ballot.Ballot{}
	}
	m.Time = g.Intn(100)
	return at(m, g.Intn(12), []string{"", "a", "b"}[g.Intn(3)])
}

// call makes one call of the acceptor and of the model.
func call(t *testing.T, g *rand.Rand, a *Acceptor, x *model, now int) {
	t.Helper()
	is := replies(t)
	m, before := anyMsg(g), x.text()
	if g.Intn(3) > 0 {
		m.Ballot.C += x.promised.C
	}
	wasPromised, wasNode, wasEnd := x.promised, x.node, x.end
	switch long := g.Intn(20); g.Intn(10) {
	case 0:
		if base := g.Intn(6) - 1 + x.base; g.Intn(4) == 0 && a.Trim(base) != x.trim(base) {
			t.Fatalf("Trim(%d)", base)
		}
	case 1, 2, 3:
		m.Slot += x.base
		want := x.accept(m)
		is(a.Accept(m))(want, x.text() != before)
		if want.Kind == msg.Accepted && ballot.Compare(m.Ballot, wasPromised) < 0 {
			t.Fatalf("P16.2: accepted %v after %v", m.Ballot, wasPromised)
		}
	case 4, 5, 6:
		m.Slot += x.base
		want := x.prepare(m, now)
		is(a.Prepare(m, now))(want, x.text() != before)
		barred(t, a, m, now, wasPromised, wasNode, wasEnd)
	default:
		want := x.ask(m, now, long)
		is(a.Ask(m, now, long))(want, x.text() != before)
		barred(t, a, m, now, wasPromised, wasNode, wasEnd)
	}
	if ballot.Compare(a.Promised(), wasPromised) < 0 {
		t.Fatalf("P16.2: promised %v after %v", a.Promised(), wasPromised)
	}
}

// barred fails if the grant of a node excludes that of m, but m has taken it
// or has had a ballot promised, or if the grant ends earlier than before.
func barred(t *testing.T, a *Acceptor, m msg.Msg, now int, promised ballot.Ballot, node, end int) {
	t.Helper()
	n, e := a.Holder()
	if node >= 0 && now < end && (n != node || e < end) {
		t.Fatalf("P16.2: the grant of %d until %d is that of %d until %d at %d", node, end, n, e, now)
	}
	if node >= 0 && now < end && m.From != node && a.Promised() != promised {
		t.Fatalf("P16.2: %v is promised to %d during the grant of %d", a.Promised(), m.From, node)
	}
}

// P16.1, P16.2, P16.3: after any calls, the acceptor is the model, also when
// it is a copy, or was read from its bytes.
func TestAnyCalls(t *testing.T) {
	g := rand.New(rand.NewSource(1))
	for i := range 1000 {
		witness := i%3 == 0
		a, x := New(witness), &model{witness: witness, entries: map[int]msg.Entry{}, node: -1}
		now := 0
		for range 100 {
			call(t, g, a, x, now)
			x.check(t, a)
			now += g.Intn(4)
			switch g.Intn(10) {
			case 0:
				a = a.Clone()
			case 1:
				a = get(t, put(a), witness)
			}
			x.check(t, a)
		}
	}
}
