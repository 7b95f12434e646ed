package propose

import (
	"math"
	"slices"
	"testing"

	"chatelaine/api"
	"chatelaine/ballot"
	"chatelaine/grid"
	"chatelaine/msg"
)

// one is the configuration of a single node.
func one() grid.Config {
	k := grid.Kind{Zones: 1, Nodes: 1}
	return grid.Config{Regions: 1, Per: 1, First: k, Second: k}
}

// three is the configuration of three regions of one node, of which node 2 is a
// witness; a quorum of the first kind is all of them, and one of the second
// kind two of them.
func three() grid.Config {
	return grid.Config{Regions: 3, Per: 1, Witness: grid.Set(2), First: grid.Kind{Zones: 3, Nodes: 1}, Second: grid.Kind{Zones: 2, Nodes: 1}}
}

// nine is a configuration of three regions of three nodes, without witnesses.
func nine() grid.Config {
	k := grid.Kind{Zones: 2, Nodes: 2}
	return grid.Config{Regions: 3, Per: 3, First: k, Second: k}
}

// configs returns valid configurations.
func configs() []grid.Config {
	four := grid.Config{Regions: 4, Per: 3, Witness: grid.Set(0, 5, 11), First: grid.Kind{Zones: 4, Nodes: 2}, Second: grid.Kind{Zones: 2, Nodes: 3}}
	return []grid.Config{one(), three(), nine(), four}
}

// b is the ballot that most tests use.
var b = ballot.Ballot{C: 5, N: 1}

// entry returns an entry with a ballot.
func entry(slot int, c uint64, n int, text string) msg.Entry {
	return msg.Entry{Slot: slot, Ballot: ballot.Ballot{C: c, N: n}, Text: text}
}

// own returns an entry with the ballot b.
func own(slot int, text string) msg.Entry { return msg.Entry{Slot: slot, Ballot: b, Text: text} }

// promise returns a Promise of a node for the ballot b.
func promise(from, base int, l ...msg.Entry) msg.Msg {
	return msg.Msg{Kind: msg.Promise, From: from, Ballot: b, Slot: base, List: l}
}

// accepted returns an Accepted of a node for the ballot b.
func accepted(from, slot int) msg.Msg {
	return msg.Msg{Kind: msg.Accepted, From: from, Ballot: b, Slot: slot}
}

// refuse returns a Refuse with a ballot.
func refuse(c uint64, n int) msg.Msg {
	return msg.Msg{Kind: msg.Refuse, Ballot: ballot.Ballot{C: c, N: n}}
}

// is fails unless the proposer has this state.
func is(t *testing.T, p *Proposer, role int, b ballot.Ballot, next, caught int, flights ...msg.Entry) {
	t.Helper()
	if p.Role() != role || p.Ballot() != b || p.Next() != next || p.Caught() != caught || !slices.Equal(p.Flights(), flights) {
		t.Fatalf("%d, %v, next %d, caught %d, %v; not %d, %v, %d, %d, %v",
			p.Role(), p.Ballot(), p.Next(), p.Caught(), p.Flights(), role, b, next, caught, flights)
	}
}

// needs fails unless the proposer needs this base, of this node.
func needs(t *testing.T, p *Proposer, base, node int) {
	t.Helper()
	if gotBase, gotNode := p.Needs(); gotBase != base || gotNode != node {
		t.Fatalf("%d of %d, not %d of %d", gotBase, gotNode, base, node)
	}
}

// counts fails unless each of these Promises counts.
func counts(t *testing.T, p *Proposer, l ...msg.Msg) {
	t.Helper()
	for _, m := range l {
		if !p.Promised(m) {
			t.Fatalf("does not count: %v", m)
		}
	}
}

// leads fails unless Lead returns these entries, each with the ballot b.
func leads(t *testing.T, p *Proposer, learned int, want ...msg.Entry) {
	t.Helper()
	if got := p.Lead(learned); p.Role() != Owner || !slices.Equal(got, want) {
		t.Fatalf("role %d, %v, not %v", p.Role(), got, want)
	}
}

// trying returns a proposer of three nodes that tries the ballot b.
func trying(from int) *Proposer {
	p := New(three(), 1)
	p.Try(b, from)
	return p
}

// owner returns an owner of three nodes that has learned everything up to a
// slot, and found these entries above it.
func owner(t *testing.T, learned int, found ...msg.Entry) *Proposer {
	t.Helper()
	p := trying(learned + 1)
	counts(t, p, promise(0, 0, found...), promise(1, 0), promise(2, 0))
	p.Lead(learned)
	if p.Role() != Owner {
		t.Fatalf("role %d", p.Role())
	}
	return p
}

// proposes fails unless the proposer proposes a text for this slot.
func proposes(t *testing.T, p *Proposer, slot int, text string) {
	t.Helper()
	if got, e := p.Propose(text); got != own(slot, text) || e != api.OK {
		t.Fatalf("%v, %d, not %v", got, e, own(slot, text))
	}
}

// unable fails unless Propose returns this error.
func unable(t *testing.T, p *Proposer, want api.Errno) {
	t.Helper()
	if got, e := p.Propose("?"); got != (msg.Entry{}) || e != want {
		t.Fatalf("%v, %d, not %d", got, e, want)
	}
}

// chooses fails unless an Accepted has this entry chosen.
func chooses(t *testing.T, p *Proposer, m msg.Msg, want msg.Entry) {
	t.Helper()
	if got, is := p.Accepted(m); !is || got != want {
		t.Fatalf("%v, %v, not %v", got, is, want)
	}
}

// waits fails unless these messages have nothing chosen.
func waits(t *testing.T, p *Proposer, l ...msg.Msg) {
	t.Helper()
	for _, m := range l {
		if got, is := p.Accepted(m); is || got != (msg.Entry{}) {
			t.Fatalf("%v: %v, %v", m, got, is)
		}
	}
}

// P18.1: the roles are 0, 1 and 2.
func TestRoles(t *testing.T) {
	if Idle != 0 || Trying != 1 || Owner != 2 {
		t.Errorf("%d, %d, %d", Idle, Trying, Owner)
	}
}

// P18.1: the example.
func TestExample(t *testing.T) {
	p := New(one(), 0)
	p.Try(ballot.Ballot{C: 1}, 1)
	if !p.Promised(msg.Msg{Ballot: ballot.Ballot{C: 1}}) || len(p.Lead(0)) > 0 || p.Role() != Owner {
		t.Fatalf("role %d", p.Role())
	}
	if got, e := p.Propose("x"); got != entry(1, 1, 0, "x") || e != api.OK {
		t.Errorf("%v, %d", got, e)
	}
	chooses(t, p, msg.Msg{Ballot: ballot.Ballot{C: 1}, Slot: 1}, entry(1, 1, 0, "x"))
	is(t, p, Owner, ballot.Ballot{C: 1}, 2, 0)
}

// P18.1: the initial state; nothing happens in it before Try.
func TestNew(t *testing.T) {
	for _, c := range configs() {
		for id := range c.Len() {
			p := New(c, id)
			if p.Promised(msg.Msg{From: id}) || p.Lead(0) != nil || p.Refused(refuse(9, 9)) {
				t.Errorf("not idle")
			}
			waits(t, p, msg.Msg{From: id}, msg.Msg{From: id, Slot: 1})
			unable(t, p, api.ErrOwner)
			p.Stop()
			is(t, p, Idle, ballot.Ballot{}, 0, 0)
			needs(t, p, 0, -1)
		}
	}
}

// P18.1: Try forgets everything, in any role.
func TestTry(t *testing.T) {
	tried := trying(1)
	counts(t, tried, promise(0, 7, entry(9, 1, 0, "old")), promise(1, 0))
	leader := owner(t, 3, entry(4, 1, 0, "old"), entry(6, 1, 0, "old"))
	proposes(t, leader, 7, "x")
	idle := owner(t, 3, entry(4, 1, 0, "old"))
	idle.Stop()
	for _, p := range []*Proposer{tried, leader, idle} {
		for _, b := range []ballot.Ballot{{C: 6, N: 1}, b} {
			p.Try(b, 1)
			is(t, p, Trying, b, 0, 0)
			needs(t, p, 0, -1)
			if got := p.Lead(math.MaxInt); got != nil || p.Role() != Trying {
				t.Errorf("%v, role %d", got, p.Role())
			}
			unable(t, p, api.ErrOwner)
		}
		waits(t, p, accepted(0, 7), accepted(1, 7), accepted(2, 7))
		counts(t, p, promise(0, 0), promise(1, 0), promise(2, 0))
		leads(t, p, 0)
		is(t, p, Owner, b, 1, 0)
	}
}

// P18.1: which Promises count.
func TestPromised(t *testing.T) {
	p := trying(1)
	for _, m := range []msg.Msg{
		promise(3, 9), promise(-1, 9), promise(12, 9), promise(31, 9), promise(32, 9), promise(math.MinInt, 9), promise(math.MaxInt, 9),
		{From: 0, Slot: 9}, {From: 0, Ballot: ballot.Ballot{C: 5}, Slot: 9}, {From: 0, Ballot: ballot.Ballot{C: 5, N: 2}, Slot: 9},
		{From: 0, Ballot: ballot.Ballot{C: 4, N: 1}, Slot: 9}, {From: 0, Ballot: ballot.Ballot{C: 6, N: 1}, Slot: 9},
	} {
		m.List = []msg.Entry{entry(1, 1, 1, "?")}
		if p.Promised(m) {
			t.Errorf("counts: %v", m)
		}
	}
	needs(t, p, 0, -1)
	for _, from := range []int{2, 0, 1} {
		if got := p.Lead(0); got != nil || p.Role() != Trying {
			t.Errorf("%v, role %d", got, p.Role())
		}
		counts(t, p, promise(from, 0))
		if p.Promised(promise(from, 9, entry(1, 1, 1, "?"))) {
			t.Errorf("node %d counts twice", from)
		}
	}
	needs(t, p, 0, -1)
	leads(t, p, 0)
	for from := range 3 {
		if p.Promised(promise(from, 9, entry(1, 1, 1, "?"))) {
			t.Errorf("an owner counts node %d", from)
		}
	}
	p.Stop()
	if p.Promised(promise(0, 9)) {
		t.Errorf("an idle proposer counts")
	}
	needs(t, p, 0, -1)
	is(t, p, Idle, b, 0, 0)
}

// P18.1: the greatest base of a node that is not a witness, and who reported it
// first.
func TestNeeds(t *testing.T) {
	p := New(nine(), 1)
	p.Try(b, 1)
	for _, c := range []struct{ from, base, greatest, node int }{
		{4, 0, 0, -1}, {3, 5, 5, 3}, {0, 5, 5, 3}, {7, 4, 5, 3}, {8, 6, 6, 8}, {1, 6, 6, 8}, {2, api.MaxSlot, api.MaxSlot, 2}, {5, 0, api.MaxSlot, 2},
	} {
		counts(t, p, promise(c.from, c.base))
		needs(t, p, c.greatest, c.node)
	}
	if got := p.Lead(api.MaxSlot - 1); got != nil || p.Role() != Trying {
		t.Errorf("%v, role %d", got, p.Role())
	}
	needs(t, p, api.MaxSlot, 2)
	leads(t, p, api.MaxSlot)
	needs(t, p, api.MaxSlot, 2)
	p.Try(b, 1)
	needs(t, p, 0, -1)
}

// P18.1: the vote of a witness counts, but neither its entries nor its base.
func TestWitness(t *testing.T) {
	p := trying(1)
	counts(t, p, promise(2, 9, entry(1, 4, 0, "digest"), entry(7, 1, 0, "digest")))
	needs(t, p, 0, -1)
	counts(t, p, promise(0, 0, entry(1, 1, 0, "x")), promise(1, 0))
	needs(t, p, 0, -1)
	leads(t, p, 0, own(1, "x"))
	is(t, p, Owner, b, 2, 1, own(1, "x"))
}

// P18.1: for each slot the entry with the greatest ballot counts, and the first
// one of several.
func TestFound(t *testing.T) {
	p := New(nine(), 1)
	p.Try(b, 4)
	counts(t, p,
		promise(0, 0, entry(3, 9, 0, "below"), entry(4, 1, 0, "least"), entry(6, 2, 1, "first"), entry(8, 2, 2, "greatest")),
		promise(1, 0, entry(4, 1, 1, "greatest"), entry(6, 2, 1, "second"), entry(8, 2, 1, "lesser")),
		promise(3, 0, entry(4, 1, 1, "later"), entry(8, 1, 8, "lesser")),
	)
	if got := p.Lead(3); got != nil || p.Role() != Trying {
		t.Errorf("%v, role %d", got, p.Role())
	}
	counts(t, p, promise(4, 0, entry(4, 1, 0, "least"), entry(6, 1, 8, "lesser"), entry(9, 0, 0, "no ballot")))
	want := []msg.Entry{own(4, "greatest"), own(5, ""), own(6, "first"), own(7, ""), own(8, "greatest"), own(9, "no ballot")}
	leads(t, p, 3, want...)
	is(t, p, Owner, b, 10, 9, want...)
}

// P18.1: a list in any order, with several entries of a slot.
func TestFoundInAnyOrder(t *testing.T) {
	p := trying(2)
	counts(t, p, promise(1, 0, entry(3, 1, 1, "a"), entry(3, 2, 1, "b"), entry(1, 3, 1, "below"), entry(2, 2, 1, "c"), entry(3, 2, 1, "d"), entry(2, 1, 1, "e")),
		promise(0, 0, entry(3, 2, 0, "f")), promise(2, 0))
	leads(t, p, 1, own(2, "c"), own(3, "b"))
}

// P18.1: what Lead proposes depends on what was learned.
func TestLead(t *testing.T) {
	found := []msg.Entry{entry(3, 1, 0, "three"), entry(5, 1, 0, "five")}
	for learned, want := range [][]msg.Entry{
		{own(1, ""), own(2, ""), own(3, "three"), own(4, ""), own(5, "five")},
		{own(2, ""), own(3, "three"), own(4, ""), own(5, "five")},
		{own(3, "three"), own(4, ""), own(5, "five")},
		{own(4, ""), own(5, "five")},
		{own(5, "five")}, {}, {}, {},
	} {
		p := trying(1)
		counts(t, p, promise(0, 0, found...), promise(1, 0), promise(2, 0))
		leads(t, p, learned, want...)
		last := max(5, learned)
		is(t, p, Owner, b, last+1, last, want...)
		if got := p.Lead(0); got != nil {
			t.Errorf("an owner again: %v", got)
		}
		is(t, p, Owner, b, last+1, last, want...)
	}
}

// P18.1: without the quorum of the first kind, and below the slot of Needs, a
// proposer does not lead, but may do so later.
func TestLeadLater(t *testing.T) {
	p := trying(1)
	nothing := func(learned int) {
		t.Helper()
		if got := p.Lead(learned); got != nil {
			t.Errorf("%v", got)
		}
		is(t, p, Trying, b, 0, 0)
	}
	nothing(9)
	counts(t, p, promise(0, 4, entry(5, 1, 0, "x")), promise(1, 0))
	nothing(9)
	counts(t, p, promise(2, 7))
	for _, learned := range []int{0, 3, -1, math.MinInt} {
		nothing(learned)
	}
	leads(t, p, 4, own(5, "x"))

	p = trying(1)
	counts(t, p, promise(0, 0), promise(1, 0), promise(2, 0))
	nothing(-1)
	nothing(math.MinInt)
	leads(t, p, 0)
	p.Stop()
	if got := p.Lead(0); got != nil || p.Role() != Idle {
		t.Errorf("%v, role %d", got, p.Role())
	}
}

// P18.1: at most MaxWindow proposals are not yet chosen, unless Lead proposes
// more.
func TestPropose(t *testing.T) {
	p := owner(t, 0)
	for slot := 1; slot <= 4; slot++ {
		proposes(t, p, slot, "x")
	}
	unable(t, p, api.ErrBusy)
	is(t, p, Owner, b, 5, 0, own(1, "x"), own(2, "x"), own(3, "x"), own(4, "x"))
	waits(t, p, accepted(0, 2))
	chooses(t, p, accepted(2, 2), own(2, "x"))
	proposes(t, p, 5, "")
	unable(t, p, api.ErrBusy)
	is(t, p, Owner, b, 6, 0, own(1, "x"), own(3, "x"), own(4, "x"), own(5, ""))

	p = owner(t, 0, entry(6, 1, 0, "six"))
	for slot := 1; slot <= 3; slot++ {
		unable(t, p, api.ErrBusy)
		waits(t, p, accepted(0, slot))
		chooses(t, p, accepted(1, slot), own(slot, ""))
	}
	proposes(t, p, 7, "seven")
	unable(t, p, api.ErrBusy)
	is(t, p, Owner, b, 8, 6, own(4, ""), own(5, ""), own(6, "six"), own(7, "seven"))
}

// P18.1: there is no slot above MaxSlot, and ErrBusy comes first.
func TestLastSlots(t *testing.T) {
	p := owner(t, api.MaxSlot-4, entry(api.MaxSlot-3, 1, 0, "found"))
	for slot := api.MaxSlot - 2; slot <= api.MaxSlot; slot++ {
		proposes(t, p, slot, "x")
	}
	unable(t, p, api.ErrBusy)
	waits(t, p, accepted(0, api.MaxSlot))
	chooses(t, p, accepted(1, api.MaxSlot), own(api.MaxSlot, "x"))
	unable(t, p, api.ErrExhausted)
	if p.Next() != api.MaxSlot+1 || p.Caught() != api.MaxSlot-3 {
		t.Errorf("%d, %d", p.Next(), p.Caught())
	}
	p.Stop()
	unable(t, p, api.ErrOwner)
	for _, learned := range []int{api.MaxSlot, api.MaxSlot + 1, math.MaxInt - 1, math.MaxInt} {
		p := owner(t, learned)
		unable(t, p, api.ErrExhausted)
		if p.Caught() != learned || p.Next() <= api.MaxSlot || len(p.Flights()) > 0 {
			t.Errorf("%d: %d, %d, %v", learned, p.Caught(), p.Next(), p.Flights())
		}
	}
}

// P18.1: a proposal is chosen by the votes of a quorum of the second kind.
func TestAccepted(t *testing.T) {
	p := owner(t, 0, entry(2, 1, 0, "two"))
	proposes(t, p, 3, "three")
	waits(t, p, accepted(0, 2), accepted(0, 2), accepted(0, 2), // a node counts once
		accepted(3, 2), accepted(-1, 2), accepted(32, 2), accepted(math.MinInt, 2), // no nodes
		accepted(1, 0), accepted(1, 4), accepted(1, -1), accepted(1, math.MaxInt), accepted(1, math.MinInt), // no proposals
		msg.Msg{From: 1, Slot: 2}, msg.Msg{From: 1, Slot: 2, Ballot: ballot.Ballot{C: 5}}, msg.Msg{From: 1, Slot: 2, Ballot: ballot.Ballot{C: 4, N: 1}},
		msg.Msg{From: 1, Slot: 2, Ballot: ballot.Ballot{C: 6, N: 1}}, msg.Msg{From: 1, Slot: 2, Ballot: ballot.Ballot{C: 5, N: 2}},
		accepted(2, 1), accepted(1, 3)) // other slots
	is(t, p, Owner, b, 4, 2, own(1, ""), own(2, "two"), own(3, "three"))
	chooses(t, p, accepted(2, 2), own(2, "two"))
	waits(t, p, accepted(1, 2), accepted(0, 2), accepted(2, 2))
	is(t, p, Owner, b, 4, 2, own(1, ""), own(3, "three"))
	chooses(t, p, accepted(0, 3), own(3, "three"))
	chooses(t, p, accepted(0, 1), own(1, ""))
	is(t, p, Owner, b, 4, 2)
	proposes(t, p, 4, "four")
	p.Stop()
	waits(t, p, accepted(0, 4), accepted(1, 4))
}

// P18.1: quorums of both kinds are those of the configuration.
func TestQuorums(t *testing.T) {
	for _, c := range configs() {
		for first := range c.All() + 1 {
			p := New(c, 0)
			p.Try(b, 1)
			for _, n := range grid.List(first) {
				counts(t, p, promise(n, 0))
			}
			p.Lead(0)
			if (p.Role() == Owner) != c.IsFirst(first) {
				t.Fatalf("%v, %x: role %d", c, first, p.Role())
			}
		}
		for second := range c.All() + 1 {
			p := New(c, 0)
			p.Try(b, 1)
			for n := range c.Len() {
				counts(t, p, promise(n, 0))
			}
			leads(t, p, 0)
			proposes(t, p, 1, "x")
			var set uint32
			for _, n := range grid.List(second) {
				set |= grid.Set(n)
				if _, is := p.Accepted(accepted(n, 1)); is != c.IsSecond(set) {
					t.Fatalf("%v, %x: %v", c, set, is)
				} else if is {
					break
				}
			}
		}
	}
}

// P18.1: a Refuse with a greater ballot makes a proposer idle that is not.
func TestRefused(t *testing.T) {
	leader := owner(t, 0, entry(2, 1, 0, "two"))
	tried := trying(1)
	counts(t, tried, promise(0, 3))
	for _, m := range []msg.Msg{refuse(0, 0), refuse(4, 11), refuse(5, 0), refuse(5, 1)} {
		if leader.Refused(m) || tried.Refused(m) {
			t.Errorf("%v", m)
		}
	}
	is(t, leader, Owner, b, 3, 2, own(1, ""), own(2, "two"))
	is(t, tried, Trying, b, 0, 0)
	for _, m := range []msg.Msg{refuse(5, 2), refuse(6, 0), refuse(math.MaxUint64, 11)} {
		leader = owner(t, 0, entry(2, 1, 0, "two"))
		tried = trying(1)
		counts(t, tried, promise(0, 3))
		for _, p := range []*Proposer{leader, tried} {
			if !p.Refused(m) || p.Refused(m) || p.Refused(refuse(7, 7)) {
				t.Errorf("%v", m)
			}
			is(t, p, Idle, b, 0, 0)
		}
		needs(t, leader, 0, -1)
		needs(t, tried, 3, 0)
	}
}

// P18.1: Stop makes the proposer idle, and keeps its ballot.
func TestStop(t *testing.T) {
	leader := owner(t, 0, entry(2, 1, 0, "two"))
	tried := trying(1)
	counts(t, tried, promise(0, 3), promise(1, 0))
	for _, p := range []*Proposer{leader, tried} {
		p.Stop()
		p.Stop()
		is(t, p, Idle, b, 0, 0)
		if p.Promised(promise(2, 0)) || p.Lead(9) != nil {
			t.Errorf("role %d", p.Role())
		}
		waits(t, p, accepted(0, 1), accepted(1, 1))
		unable(t, p, api.ErrOwner)
	}
	needs(t, tried, 3, 0)
}

// P18.1: of a message, only the fields that are named matter.
func TestOtherFieldsDoNotMatter(t *testing.T) {
	more := func(m msg.Msg) msg.Msg {
		m.Kind, m.To, m.Sub, m.Time, m.OK, m.Text = msg.Snap, 3, 2, 9, true, "?"
		return m
	}
	p := trying(1)
	for from := range 3 {
		m := more(promise(from, 0))
		counts(t, p, m)
	}
	leads(t, p, 0)
	proposes(t, p, 1, "x")
	waits(t, p, more(accepted(0, 1)))
	chooses(t, p, more(accepted(1, 1)), own(1, "x"))
	if !p.Refused(more(refuse(6, 0))) {
		t.Errorf("not refused")
	}
}

// Rule 5: lists are copies, and are neither changed nor kept.
func TestMemory(t *testing.T) {
	p := trying(1)
	m := promise(0, 0, entry(1, 1, 1, "one"), entry(2, 1, 1, "two"), entry(3, 1, 1, "three"))
	m.List = m.List[:2]
	given := slices.Clone(m.List[:3])
	counts(t, p, m, promise(1, 0), promise(2, 0))
	if !slices.Equal(m.List[:3], given) {
		t.Errorf("an argument was changed: %v", m.List[:3])
	}
	clear(m.List)
	want := []msg.Entry{own(1, "one"), own(2, "two")}
	for _, l := range [][]msg.Entry{p.Lead(0), p.Flights(), p.Flights()} {
		if !slices.Equal(l, want) {
			t.Errorf("%v", l)
		}
		_ = append(l, entry(9, 9, 9, "?"))
		clear(l)
	}
	is(t, p, Owner, b, 3, 2, want...)
	before := p.Flights()
	waits(t, p, accepted(0, 1))
	chooses(t, p, accepted(1, 1), want[0])
	proposes(t, p, 3, "three")
	if !slices.Equal(before, want) {
		t.Errorf("%v", before)
	}
}

// Rule 1: any numbers and any configurations are accepted; one that Check
// refuses has no quorums.
func TestAnyNumbers(t *testing.T) {
	numbers := []int{0, -1, math.MinInt, math.MaxInt, math.MaxInt - 1}
	for _, c := range []grid.Config{{}, {Regions: -1, Per: math.MaxInt}, {Regions: 3, Per: 1}, one()} {
		for _, n := range numbers {
			p := New(c, n)
			b := ballot.Ballot{C: math.MaxUint64, N: n}
			p.Try(b, math.MinInt)
			p.Promised(msg.Msg{From: n, Ballot: b, Slot: n, List: []msg.Entry{{Slot: math.MinInt, Text: "x"}, {Slot: -1}, {Slot: -1}}})
			p.Promised(msg.Msg{Ballot: b, List: []msg.Entry{{Slot: math.MinInt, Text: "x"}, {Slot: -1, Ballot: b}}})
			p.Lead(n)
			if (p.Role() == Owner) != (c == one() && n >= 0) || len(p.Flights()) > 0 {
				t.Errorf("%v, %d: role %d, %v", c, n, p.Role(), p.Flights())
			}
			p.Propose("x")
			p.Accepted(msg.Msg{From: n, Ballot: b, Slot: n})
			p.Refused(msg.Msg{From: n, Ballot: ballot.Ballot{C: math.MaxUint64, N: math.MaxInt}})
			p.Needs()
		}
	}
}

// P18.1: entries near the greatest number.
func TestGreatestNumbers(t *testing.T) {
	for _, learned := range []int{math.MaxInt - 2, math.MaxInt - 1, math.MaxInt} {
		p := trying(math.MinInt)
		counts(t, p, promise(0, 0, entry(math.MaxInt, 1, 0, "x"), entry(math.MinInt, 1, 0, "y")), promise(1, learned), promise(2, 0))
		if got := p.Lead(learned); len(got) != math.MaxInt-learned || p.Role() != Owner || p.Caught() != math.MaxInt {
			t.Errorf("%d: %v, role %d, caught %d", learned, got, p.Role(), p.Caught())
		}
		if len(p.Flights()) > 0 && p.Flights()[len(p.Flights())-1] != own(math.MaxInt, "x") {
			t.Errorf("%d: %v", learned, p.Flights())
		}
		unable(t, p, api.ErrExhausted)
	}
}
