package accept

import (
	"hash/fnv"
	"math"
	"math/rand"
	"slices"
	"strings"
	"testing"

	"chatelaine/api"
	"chatelaine/ballot"
	"chatelaine/msg"
)

// both is what a witness is, and what another node is.
var both = []bool{false, true}

// of returns a message from a node with a ballot.
func of(from int, c uint64, n int) msg.Msg {
	return msg.Msg{From: from, Ballot: ballot.Ballot{C: c, N: n}}
}

// at returns a message with a slot and a text.
func at(m msg.Msg, slot int, text string) msg.Msg {
	m.Slot, m.Text = slot, text
	return m
}

// promise, accepted, granted and refuse return the replies of these kinds.
func promise(c uint64, n, base int, l ...msg.Entry) msg.Msg {
	return msg.Msg{Kind: msg.Promise, Ballot: ballot.Ballot{C: c, N: n}, Slot: base, List: l}
}

func accepted(c uint64, n, slot int) msg.Msg {
	return msg.Msg{Kind: msg.Accepted, Ballot: ballot.Ballot{C: c, N: n}, Slot: slot}
}

func granted(c uint64, n, time int) msg.Msg {
	return msg.Msg{Kind: msg.Grant, Ballot: ballot.Ballot{C: c, N: n}, Time: time}
}

func refuse(c uint64, n, time int) msg.Msg {
	return msg.Msg{Kind: msg.Refuse, Ballot: ballot.Ballot{C: c, N: n}, Time: time}
}

// entry returns an entry with a ballot.
func entry(slot int, c uint64, n int, text string) msg.Entry {
	return msg.Entry{Slot: slot, Ballot: ballot.Ballot{C: c, N: n}, Text: text}
}

// replies returns what a call is handed to, and then what is wanted of it: its
// reply, and whether the state has changed.
func replies(t *testing.T) func(got msg.Msg, did bool) func(want msg.Msg, changed bool) {
	t.Helper()
	return func(got msg.Msg, did bool) func(want msg.Msg, changed bool) {
		return func(want msg.Msg, changed bool) {
			t.Helper()
			if !msg.Same(got, want) || did != changed {
				t.Fatalf("%v, %v, not %v, %v", got, did, want, changed)
			}
		}
	}
}

// same fails unless two acceptors have the same state.
func same(t *testing.T, a, b *Acceptor) {
	t.Helper()
	aNode, aEnd := a.Holder()
	bNode, bEnd := b.Holder()
	if a.Witness() != b.Witness() || a.Promised() != b.Promised() || a.Base() != b.Base() ||
		!slices.Equal(a.List(), b.List()) || aNode != bNode || aEnd != bEnd {
		t.Fatalf("%v is not %v", *a, *b)
	}
}

// holds fails unless the grant is that of a node, or -1, until that time.
func holds(t *testing.T, a *Acceptor, node, end int) {
	t.Helper()
	if n, e := a.Holder(); n != node || e != end {
		t.Fatalf("the grant is of %d until %d, not of %d until %d", n, e, node, end)
	}
}

// lists fails unless the acceptor has these entries.
func lists(t *testing.T, a *Acceptor, want ...msg.Entry) {
	t.Helper()
	if got := a.List(); !slices.Equal(got, want) {
		t.Fatalf("%v, not %v", got, want)
	}
}

// P16.1: the digest of known texts, and of any bytes.
func TestDigest(t *testing.T) {
	for _, c := range []struct{ s, want string }{
		{"", "\xcb\xf2\x9c\xe4\x84\x22\x23\x25"},
		{"a", "\xaf\x63\xdc\x4c\x86\x01\xec\x8c"},
		{"foobar", "\x85\x94\x41\x71\xf7\x39\x67\xe8"},
	} {
		if got := Digest(c.s); got != c.want {
			t.Errorf("%q: %x", c.s, got)
		}
	}
	g := rand.New(rand.NewSource(1))
	for range 1000 {
		s := make([]byte, g.Intn(500))
		g.Read(s)
		h := fnv.New64a()
		h.Write(s)
		if got := Digest(string(s)); got != string(h.Sum(nil)) {
			t.Fatalf("%x: %x", s, got)
		}
	}
}

// P16.1: the initial state.
func TestNew(t *testing.T) {
	for _, witness := range both {
		a := New(witness)
		if a.Witness() != witness || !a.Promised().None() || a.Base() != 0 {
			t.Errorf("%v", *a)
		}
		lists(t, a)
		holds(t, a, -1, 0)
	}
}

// P16.1: the example.
func TestExample(t *testing.T) {
	is := replies(t)
	a := New(false)
	is(a.Prepare(of(1, 2, 1), 0))(promise(2, 1, 0), true)
	is(a.Accept(at(of(0, 1, 0), 1, "x")))(refuse(2, 1, 0), false)
	is(a.Ask(of(1, 2, 1), 5, 10))(granted(2, 1, 0), true)
	is(a.Prepare(of(2, 3, 2), 14))(refuse(2, 1, 1), false)
	is(a.Prepare(of(2, 3, 2), 15))(promise(3, 2, 0), true)
}

// P16.1: a ballot that is not less than the promised one is promised.
func TestPrepare(t *testing.T) {
	is := replies(t)
	a := New(false)
	is(a.Prepare(of(0, 0, 0), 0))(promise(0, 0, 0), false)
	is(a.Prepare(of(1, 2, 1), 0))(promise(2, 1, 0), true)
	is(a.Prepare(of(1, 2, 1), 3))(promise(2, 1, 0), false)
	is(a.Prepare(of(0, 2, 0), 3))(refuse(2, 1, 0), false)
	is(a.Prepare(of(0, 0, 0), 3))(refuse(2, 1, 0), false)
	is(a.Prepare(of(0, 1, 11), 3))(refuse(2, 1, 0), false)
	is(a.Prepare(of(5, 2, 2), 3))(promise(2, 2, 0), true) // the ballot counts, not its node
	is(a.Prepare(of(0, math.MaxUint64, 0), 3))(promise(math.MaxUint64, 0, 0), true)
	is(a.Prepare(of(1, 1<<63, 1), 3))(refuse(math.MaxUint64, 0, 0), false)
	if b := a.Promised(); b != (ballot.Ballot{C: math.MaxUint64}) {
		t.Errorf("%v", b)
	}
	holds(t, a, -1, 0)
}

// P16.1: a Promise has the entries from the slot on, and the base.
func TestPromiseHasTheEntries(t *testing.T) {
	is := replies(t)
	a := New(false)
	two, four, seven := entry(2, 1, 0, "two"), entry(4, 3, 1, "four"), entry(7, 2, 2, "")
	is(a.Accept(at(of(0, 1, 0), 2, "two")))(accepted(1, 0, 2), true)
	is(a.Accept(at(of(2, 2, 2), 7, "")))(accepted(2, 2, 7), true)
	is(a.Accept(at(of(1, 3, 1), 4, "four")))(accepted(3, 1, 4), true)
	for slot, want := range [][]msg.Entry{
		{two, four, seven}, {two, four, seven}, {two, four, seven}, {four, seven}, {four, seven},
		{seven}, {seven}, {seven}, {},
	} {
		is(a.Prepare(at(of(1, 3, 1), slot, "?"), 0))(promise(3, 1, 0, want...), false)
	}
	is(a.Prepare(at(of(1, 3, 1), api.MaxSlot, ""), 0))(promise(3, 1, 0), false)
	a.Trim(3)
	is(a.Prepare(at(of(1, 4, 1), 0, ""), 0))(promise(4, 1, 3, four, seven), true)
	is(a.Prepare(at(of(1, 5, 1), 5, ""), 0))(promise(5, 1, 3, seven), true)
	lists(t, a, four, seven)
}

// P16.1: the entry of a slot is that of the last Accept, with its ballot.
func TestAccept(t *testing.T) {
	is := replies(t)
	a := New(false)
	is(a.Accept(at(of(3, 0, 0), 5, "none")))(accepted(0, 0, 5), true) // before any ballot
	is(a.Accept(at(of(3, 2, 3), 5, "a")))(accepted(2, 3, 5), true)
	is(a.Accept(at(of(3, 2, 3), 5, "a")))(accepted(2, 3, 5), false)
	is(a.Accept(at(of(3, 2, 3), 5, "b")))(accepted(2, 3, 5), true)
	is(a.Accept(at(of(3, 2, 2), 5, "c")))(refuse(2, 3, 0), false)
	is(a.Accept(at(of(3, 1, 11), 6, "c")))(refuse(2, 3, 0), false)
	lists(t, a, entry(5, 2, 3, "b"))
	is(a.Accept(at(of(1, 2, 4), 5, "b")))(accepted(2, 4, 5), true)
	is(a.Accept(at(of(1, 2, 4), 1, "")))(accepted(2, 4, 1), true)
	is(a.Accept(at(of(1, 3, 4), api.MaxSlot, "z")))(accepted(3, 4, api.MaxSlot), true)
	lists(t, a, entry(1, 2, 4, ""), entry(5, 2, 4, "b"), entry(api.MaxSlot, 3, 4, "z"))
	if b := a.Promised(); b != (ballot.Ballot{C: 3, N: 4}) {
		t.Errorf("%v", b)
	}
}

// P16.1: of a slot up to the base nothing is stored, but the ballot is
// promised.
func TestAcceptUpToTheBase(t *testing.T) {
	is := replies(t)
	a := New(false)
	is(a.Accept(at(of(1, 1, 1), 0, "x")))(accepted(1, 1, 0), true)
	is(a.Accept(at(of(1, 1, 1), 0, "x")))(accepted(1, 1, 0), false)
	a.Trim(4)
	is(a.Accept(at(of(1, 1, 1), 4, "x")))(accepted(1, 1, 4), false)
	is(a.Accept(at(of(1, 2, 1), 3, "x")))(accepted(2, 1, 3), true)
	lists(t, a)
	is(a.Accept(at(of(1, 1, 1), 3, "x")))(refuse(2, 1, 0), false)
	is(a.Accept(at(of(1, 2, 1), 5, "x")))(accepted(2, 1, 5), true)
	lists(t, a, entry(5, 2, 1, "x"))
}

// full returns an acceptor with MaxList entries, those of the even slots above
// base.
func full(t *testing.T, witness bool, base int) *Acceptor {
	t.Helper()
	a := New(witness)
	a.Trim(base)
	for i := range 64 {
		replies(t)(a.Accept(at(of(1, 1, 1), base+2*i+2, "x")))(accepted(1, 1, base+2*i+2), true)
	}
	return a
}

// P16.1: beyond MaxList entries, another slot is not accepted, nor its ballot
// promised.
func TestFull(t *testing.T) {
	is := replies(t)
	for _, witness := range both {
		for _, base := range []int{0, 100} {
			a := full(t, witness, base)
			before := a.Clone()
			for _, slot := range []int{base + 1, base + 3, base + 127, base + 129, api.MaxSlot} {
				is(a.Accept(at(of(2, 2, 2), slot, "y")))(msg.Msg{}, false)
				is(a.Accept(at(of(0, 1, 0), slot, "y")))(refuse(1, 1, 0), false)
			}
			same(t, a, before)
			is(a.Accept(at(of(2, 2, 2), base, "y")))(accepted(2, 2, base), true)
			is(a.Accept(at(of(2, 3, 2), base+128, "y")))(accepted(3, 2, base+128), true)
			if l := a.List(); len(l) != 64 || l[63].Ballot != (ballot.Ballot{C: 3, N: 2}) {
				t.Fatalf("%v", l)
			}
			a.Trim(base + 2)
			is(a.Accept(at(of(2, 3, 2), base+1, "y")))(accepted(3, 2, base+1), false)
			is(a.Accept(at(of(2, 3, 2), base+3, "y")))(accepted(3, 2, base+3), true)
			is(a.Accept(at(of(2, 3, 2), base+5, "y")))(msg.Msg{}, false)
		}
	}
}

// P16.1: a witness stores the digest of each text, and nothing else of it.
func TestWitness(t *testing.T) {
	is := replies(t)
	a := New(true)
	long := strings.Repeat("x", api.MaxImage)
	is(a.Accept(at(of(1, 1, 1), 1, "foobar")))(accepted(1, 1, 1), true)
	is(a.Accept(at(of(1, 1, 1), 2, "")))(accepted(1, 1, 2), true)
	is(a.Accept(at(of(1, 1, 1), 3, long)))(accepted(1, 1, 3), true)
	is(a.Accept(at(of(1, 1, 1), 3, long)))(accepted(1, 1, 3), false)
	is(a.Accept(at(of(1, 1, 1), 1, "foobaz")))(accepted(1, 1, 1), true)
	want := []msg.Entry{entry(1, 1, 1, Digest("foobaz")), entry(2, 1, 1, Digest("")), entry(3, 1, 1, Digest(long))}
	lists(t, a, want...)
	is(a.Prepare(at(of(2, 2, 2), 2, ""), 0))(promise(2, 2, 0, want[1:]...), true)
}

// P16.1: the order of the two refusals in Prepare and in Ask.
func TestOrderOfRefusals(t *testing.T) {
	is := replies(t)
	a := New(false)
	is(a.Ask(of(1, 5, 1), 10, 10))(granted(5, 1, 0), true)
	for _, now := range []int{0, 10, 15, 19} {
		is(a.Prepare(of(2, 4, 2), now))(refuse(5, 1, 20-now), false)
		is(a.Prepare(of(2, 5, 1), now))(refuse(5, 1, 20-now), false)
		is(a.Prepare(of(2, 6, 2), now))(refuse(5, 1, 20-now), false)
		is(a.Ask(of(2, 4, 2), now, 5))(refuse(5, 1, 0), false)
		is(a.Ask(of(2, 5, 1), now, 5))(refuse(5, 1, 20-now), false)
		is(a.Ask(of(2, 6, 2), now, 5))(refuse(5, 1, 20-now), false)
		is(a.Prepare(of(1, 4, 1), now))(refuse(5, 1, 0), false)
		is(a.Ask(of(1, 4, 1), now, 5))(refuse(5, 1, 0), false)
	}
	is(a.Prepare(of(2, 4, 2), 20))(refuse(5, 1, 0), false)
	is(a.Ask(of(2, 4, 2), 20, 5))(refuse(5, 1, 0), false)
	holds(t, a, 1, 20)
	is(a.Ask(of(2, 6, 2), 20, 5))(granted(6, 2, 0), true)
	holds(t, a, 2, 25)
}

// P16.1: a grant of a node is renewed, and never shortened by its own node.
func TestAsk(t *testing.T) {
	is := replies(t)
	a := New(true)
	ask := of(3, 2, 3)
	ask.Time = 77
	is(a.Ask(ask, 5, 10))(granted(2, 3, 77), true)
	holds(t, a, 3, 15)
	is(a.Ask(ask, 5, 10))(granted(2, 3, 77), false)
	is(a.Ask(ask, 5, 9))(granted(2, 3, 77), false)
	is(a.Ask(ask, 4, 10))(granted(2, 3, 77), false)
	holds(t, a, 3, 15)
	is(a.Ask(ask, 6, 10))(granted(2, 3, 77), true)
	holds(t, a, 3, 16)
	is(a.Ask(of(3, 4, 3), 6, 1))(granted(4, 3, 0), true) // only the ballot is new
	holds(t, a, 3, 16)
	is(a.Prepare(of(3, 5, 3), 7))(promise(5, 3, 0), true)
	is(a.Accept(at(of(3, 6, 3), 1, "x")))(accepted(6, 3, 1), true)
	holds(t, a, 3, 16)
	is(a.Ask(of(4, 6, 3), 16, 0))(granted(6, 3, 0), true) // only the node is new
	holds(t, a, 4, 16)
	is(a.Ask(of(3, 6, 3), 16, 2))(granted(6, 3, 0), true)
	holds(t, a, 3, 18)
	is(a.Ask(of(4, 7, 4), 30, 2))(granted(7, 4, 0), true)
	holds(t, a, 4, 32)
}

// P16.1: an expired grant of another node does not lengthen the next one.
func TestGrantOfAnotherNodeIsReplaced(t *testing.T) {
	is := replies(t)
	a := New(false)
	is(a.Ask(of(1, 1, 1), 0, 100))(granted(1, 1, 0), true)
	is(a.Ask(of(2, 2, 2), 100, 0))(granted(2, 2, 0), true)
	holds(t, a, 2, 100)
	is(a.Ask(of(0, 3, 0), 150, 1))(granted(3, 0, 0), true)
	holds(t, a, 0, 151)
}

// P16.1: a grant ends at MaxTime at the latest; one of no duration excludes
// nobody.
func TestEndsOfGrants(t *testing.T) {
	is := replies(t)
	a := New(false)
	is(a.Ask(of(0, 0, 0), 0, 0))(granted(0, 0, 0), true)
	holds(t, a, 0, 0)
	is(a.Ask(of(0, 0, 0), 0, 0))(granted(0, 0, 0), false)
	is(a.Prepare(of(1, 1, 1), 0))(promise(1, 1, 0), true)
	is(a.Ask(of(1, 1, 1), 0, 0))(granted(1, 1, 0), true)
	holds(t, a, 1, 0)
	is(a.Ask(of(1, 1, 1), 0, api.MaxTime))(granted(1, 1, 0), true)
	holds(t, a, 1, api.MaxTime)
	is(a.Prepare(of(2, 2, 2), 0))(refuse(1, 1, api.MaxTime), false)
	is(a.Ask(of(1, 1, 1), api.MaxTime, api.MaxTime))(granted(1, 1, 0), false)
	is(a.Ask(of(2, 2, 2), api.MaxTime-1, 9))(refuse(1, 1, 1), false)
	is(a.Ask(of(2, 2, 2), api.MaxTime, 9))(granted(2, 2, 0), true)
	holds(t, a, 2, api.MaxTime)
	is(a.Prepare(of(3, 3, 3), api.MaxTime))(promise(3, 3, 0), true)
}

// P16.2: Accept alone promises a ballot of another node during a grant, and
// leaves the grant.
func TestAcceptDuringAGrant(t *testing.T) {
	is := replies(t)
	a := New(false)
	is(a.Ask(of(1, 1, 1), 0, 10))(granted(1, 1, 0), true)
	is(a.Accept(at(of(2, 2, 2), 1, "x")))(accepted(2, 2, 1), true)
	holds(t, a, 1, 10)
	is(a.Ask(of(1, 1, 1), 1, 10))(refuse(2, 2, 0), false)
	is(a.Prepare(of(2, 2, 2), 1))(refuse(2, 2, 9), false)
	is(a.Prepare(of(1, 3, 1), 1))(promise(3, 1, 0, entry(1, 2, 2, "x")), true)
}

// P16.1: Trim raises the base, and removes the entries up to it.
func TestTrim(t *testing.T) {
	is := replies(t)
	for _, witness := range both {
		a := New(witness)
		var l []msg.Entry
		for _, slot := range []int{1, 3, 4, 9} {
			is(a.Accept(at(of(1, 1, 1), slot, "x")))(accepted(1, 1, slot), true)
			l = append(l, entry(slot, 1, 1, a.stored("x")))
		}
		is(a.Ask(of(1, 1, 1), 2, 3))(granted(1, 1, 0), true)
		for _, c := range []struct {
			base, after int
			did         bool
			left        []msg.Entry
		}{
			{0, 0, false, l}, {-1, 0, false, l}, {math.MinInt, 0, false, l},
			{2, 2, true, l[1:]}, {2, 2, false, l[1:]}, {1, 2, false, l[1:]},
			{3, 3, true, l[2:]}, {8, 8, true, l[3:]}, {4, 8, false, l[3:]},
			{api.MaxSlot, api.MaxSlot, true, nil}, {9, api.MaxSlot, false, nil},
		} {
			if did := a.Trim(c.base); did != c.did || a.Base() != c.after {
				t.Fatalf("Trim(%d): %v, %d", c.base, did, a.Base())
			}
			lists(t, a, c.left...)
		}
		holds(t, a, 1, 5)
		if a.Promised() != (ballot.Ballot{C: 1, N: 1}) || a.Witness() != witness {
			t.Fatalf("%v", *a)
		}
		is(a.Accept(at(of(1, 1, 1), api.MaxSlot, "x")))(accepted(1, 1, api.MaxSlot), false)
	}
	a := full(t, false, 0)
	if !a.Trim(math.MaxInt) || a.Base() != math.MaxInt || len(a.List()) > 0 {
		t.Errorf("%v", *a)
	}
}

// Rule 5: neither lists nor copies share memory with the acceptor.
func TestMemory(t *testing.T) {
	is := replies(t)
	a := full(t, false, 0)
	before := a.Clone()
	list := a.List()
	reply, _ := a.Prepare(of(1, 1, 1), 0)
	for _, l := range [][]msg.Entry{list, reply.List} {
		_ = append(l, entry(500, 9, 9, "?"))
		for i := range l {
			l[i] = entry(1, 9, 9, "?")
		}
	}
	same(t, a, before)
	is(a.Prepare(of(1, 1, 1), 0))(promise(1, 1, 0, before.List()...), false)

	c := a.Clone()
	is(c.Ask(of(2, 2, 2), 0, 5))(granted(2, 2, 0), true)
	is(c.Accept(at(of(2, 2, 2), 128, "new")))(accepted(2, 2, 128), true)
	c.Trim(2)
	is(c.Accept(at(of(2, 2, 2), 3, "new")))(accepted(2, 2, 3), true)
	same(t, a, before)
	b := c.Clone()
	a.Trim(100)
	is(a.Prepare(of(3, 3, 3), 0))(promise(3, 3, 100, a.List()...), true)
	same(t, c, b)

	m := at(of(2, 2, 2), 5, "new")
	m.List = []msg.Entry{entry(1, 1, 1, "?"), entry(2, 1, 1, "?")}[:1]
	given := slices.Clone(m.List[:2])
	c.Accept(m)
	c.Prepare(m, 0)
	c.Ask(m, 0, 5)
	if !slices.Equal(m.List[:2], given) {
		t.Errorf("an argument was changed: %v", m.List[:2])
	}
}

// P16.1: of a message, only From, Ballot, Slot, Time and Text matter.
func TestOtherFieldsDoNotMatter(t *testing.T) {
	is := replies(t)
	a, b := New(false), New(false)
	more := func(m msg.Msg) msg.Msg {
		m.Kind, m.To, m.Sub, m.OK = msg.Snap, 3, 2, true
		m.List = []msg.Entry{entry(1, 9, 9, "?")}
		return m
	}
	one := at(of(1, 1, 1), 1, "x")
	one.Time = 6
	is(a.Prepare(more(one), 0))(b.Prepare(one, 0))
	is(a.Accept(more(one)))(b.Accept(one))
	is(a.Ask(more(one), 2, 3))(b.Ask(one, 2, 3))
	same(t, a, b)
	two := of(2, 0, 0)
	is(a.Prepare(more(two), 9))(b.Prepare(two, 9))
	is(a.Accept(more(two)))(b.Accept(two))
	is(a.Ask(more(two), 0, 3))(b.Ask(two, 0, 3))
	same(t, a, b)
}

// P16.1: without a grant, nobody is excluded at any time.
func TestNoGrant(t *testing.T) {
	for _, now := range []int{0, 1, api.MaxTime, -1, math.MinInt, math.MaxInt} {
		is := replies(t)
		a := New(false)
		is(a.Prepare(of(1, 1, 1), now))(promise(1, 1, 0), true)
		is(a.Prepare(of(2, 2, 2), now))(promise(2, 2, 0), true)
		is(a.Ask(of(0, 3, 0), now, 0))(granted(3, 0, 0), true)
	}
}

// Rule 1: any numbers are accepted.
func TestAnyNumbers(t *testing.T) {
	for _, n := range []int{-1, math.MinInt, math.MaxInt, math.MaxInt - 1} {
		for _, witness := range both {
			a := New(witness)
			m := at(msg.Msg{From: n, Time: n, Ballot: ballot.Ballot{C: 1, N: n}}, n, "x")
			a.Ask(m, n, n)
			a.Prepare(m, n)
			a.Accept(m)
			a.Ask(m, 0, n)
			a.Trim(n)
			a.Accept(m)
			a.Prepare(m, n)
			a.Clone().Holder()
		}
	}
}
