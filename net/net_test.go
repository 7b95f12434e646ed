package net

import (
	"math"
	"math/rand"
	"slices"
	"strconv"
	"testing"

	"chatelaine/api"
)

// wrong returns numbers that are neither nodes nor packets.
func wrong() []int {
	return []int{-1, -2, math.MinInt, 1 << 32, math.MaxInt, math.MaxInt - 1}
}

// all returns the packets in transit.
func all(n *Net) []Packet {
	var l []Packet
	for k := range n.Len() {
		p, _ := n.Look(k)
		l = append(l, p)
	}
	return l
}

// texts returns the texts of the packets in transit, one after the other.
func texts(n *Net) string {
	s := ""
	for _, p := range all(n) {
		s += p.Text
	}
	return s
}

// is fails unless the packets in transit have these texts of one byte.
func is(t *testing.T, n *Net, want string) {
	t.Helper()
	if got := texts(n); got != want || n.Len() != len(want) {
		t.Fatalf("%d packets: %q, not %q", n.Len(), got, want)
	}
}

// ok fails unless a call returned true.
func ok(t *testing.T, l ...bool) {
	t.Helper()
	for i, is := range l {
		if !is {
			t.Fatalf("call %d of %d returned false", i+1, len(l))
		}
	}
}

// sent returns a net of four nodes with a packet for each byte of s, from 0
// to 1.
func sent(t *testing.T, s string) *Net {
	t.Helper()
	n := New(4)
	for i := range len(s) {
		ok(t, n.Send(Packet{0, 1, s[i : i+1]}))
	}
	return n
}

// full returns a net in which MaxFly packets are in transit.
func full(t *testing.T) *Net {
	t.Helper()
	n := New(api.MaxNodes)
	for i := range api.MaxFly {
		ok(t, n.Send(Packet{i % 3, 3 + i%4, strconv.Itoa(i)}))
	}
	return n
}

// P14.1: the examples.
func TestExample(t *testing.T) {
	n := sent(t, "ab")
	ok(t, n.Last(0))
	if p, is := n.Take(0); p != (Packet{0, 1, "b"}) || !is {
		t.Errorf("%v, %v", p, is)
	}
	n.Cut(0, 1, true)
	if p, is := n.Take(0); p != (Packet{}) || is {
		t.Errorf("%v, %v", p, is)
	}
	is(t, n, "")
}

// P14.1: a net has 0 to 12 nodes, and packets go from a node to another one.
func TestNodes(t *testing.T) {
	for _, nodes := range append(wrong(), 0, 1, 2, 3, 11, 12, 13, 14, 100) {
		limited := min(max(nodes, 0), 12)
		numbers := wrong()
		for i := range 15 {
			numbers = append(numbers, i)
		}
		for _, a := range numbers {
			for _, b := range numbers {
				want := 0 <= a && a < limited && 0 <= b && b < limited && a != b
				connects(t, nodes, a, b, want)
			}
		}
	}
}

// connects fails unless a new net of so many nodes has a connection from a to
// b, or has none.
func connects(t *testing.T, nodes, a, b int, want bool) {
	t.Helper()
	n := New(nodes)
	if n.Len() != 0 || n.IsCut(a, b) {
		t.Fatalf("New(%d): %d packets, %d to %d cut: %v", nodes, n.Len(), a, b, n.IsCut(a, b))
	}
	if n.Send(Packet{a, b, "x"}) != want || n.Len() == 1 != want {
		t.Fatalf("New(%d): %d to %d: %d packets", nodes, a, b, n.Len())
	}
	n.Cut(a, b, true)
	if n.IsCut(a, b) != want {
		t.Fatalf("New(%d): %d to %d cut: %v", nodes, a, b, n.IsCut(a, b))
	}
}

// P14.1: Send appends, whatever the text is.
func TestSend(t *testing.T) {
	n := New(3)
	want := []Packet{{0, 1, ""}, {2, 0, "\x00\xff"}, {0, 1, ""}, {1, 2, "text"}, {2, 1, "more"}}
	for i, p := range want {
		ok(t, n.Send(p))
		if got := all(n); !slices.Equal(got, want[:i+1]) {
			t.Fatalf("%v, not %v", got, want[:i+1])
		}
	}
}

// P14.1: at most MaxFly packets are in transit, those that were copied
// included.
func TestFull(t *testing.T) {
	n := full(t)
	before := all(n)
	if len(before) != 4000 || n.Send(Packet{0, 1, "x"}) || n.Again(0) || n.Again(3999) {
		t.Errorf("%d packets, and one more", len(before))
	}
	if !slices.Equal(all(n), before) {
		t.Errorf("the packets have changed")
	}
	ok(t, n.Last(7))
	if p, _ := n.Look(3999); p != before[7] {
		t.Errorf("%v, not %v", p, before[7])
	}
	ok(t, n.Drop(0), n.Again(0))
	if n.Again(0) || n.Send(Packet{0, 1, "x"}) {
		t.Errorf("one more after Again")
	}
	_, taken := n.Take(0)
	ok(t, taken, n.Send(Packet{0, 1, "x"}))
	if n.Again(0) || n.Send(Packet{0, 1, "x"}) || n.Len() != 4000 {
		t.Errorf("%d packets, one more after Send", n.Len())
	}
}

// P14.1: there is no packet before the first one or after the last one.
func TestNoPacket(t *testing.T) {
	for _, s := range []string{"", "a", "abc"} {
		n := sent(t, s)
		n.Cut(0, 1, true)
		for _, k := range append(wrong(), len(s), len(s)+1) {
			if p, is := n.Look(k); p != (Packet{}) || is {
				t.Errorf("Look(%d): %v, %v", k, p, is)
			}
			if p, is := n.Take(k); p != (Packet{}) || is {
				t.Errorf("Take(%d): %v, %v", k, p, is)
			}
			if n.Drop(k) || n.Again(k) || n.Last(k) {
				t.Errorf("there is a packet %d", k)
			}
		}
		is(t, n, s)
	}
}

// P14.1: what each method does with each packet.
func TestPackets(t *testing.T) {
	for k, want := range []struct{ look, rest, again, last string }{
		{"a", "bcd", "abcda", "bcda"},
		{"b", "acd", "abcdb", "acdb"},
		{"c", "abd", "abcdc", "abdc"},
		{"d", "abc", "abcdd", "abcd"},
	} {
		p := Packet{0, 1, want.look}
		n := sent(t, "abcd")
		if got, is := n.Look(k); got != p || !is {
			t.Errorf("Look(%d): %v, %v", k, got, is)
		}
		is(t, n, "abcd")
		ok(t, n.Again(k))
		is(t, n, want.again)
		ok(t, n.Drop(4), n.Last(k))
		is(t, n, want.last)

		n = sent(t, "abcd")
		if got, is := n.Take(k); got != p || !is {
			t.Errorf("Take(%d): %v, %v", k, got, is)
		}
		is(t, n, want.rest)

		n = sent(t, "abcd")
		ok(t, n.Drop(k))
		is(t, n, want.rest)
	}
}

// P14.1: a cut connection blocks the packets of its direction when they are
// taken, and nothing else.
func TestCut(t *testing.T) {
	n := New(3)
	n.Cut(0, 1, true)
	for _, p := range []Packet{{0, 1, "a"}, {1, 0, "b"}, {0, 2, "c"}, {2, 1, "d"}, {0, 1, "e"}} {
		ok(t, n.Send(p))
	}
	ok(t, n.Again(0), n.Last(0), n.Drop(4))
	is(t, n, "bcdea")
	for _, want := range []string{"b", "c", "d", "", ""} {
		p, is := n.Take(0)
		if p.Text != want || is != (want != "") || !is && p != (Packet{}) {
			t.Errorf("%v, %v, not %q", p, is, want)
		}
	}
	is(t, n, "")
}

// P14.1: a packet that was sent before a cut is blocked, and one that is taken
// after the connection was restored is not.
func TestCutCountsWhenTaken(t *testing.T) {
	n := sent(t, "abcd")
	n.Cut(0, 1, true)
	if _, is := n.Take(0); is {
		t.Errorf("the connection is cut")
	}
	n.Cut(0, 1, false)
	if p, is := n.Take(0); p.Text != "b" || !is {
		t.Errorf("%v, %v", p, is)
	}
	n.Cut(0, 1, true)
	n.Heal()
	if p, is := n.Take(0); p.Text != "c" || !is {
		t.Errorf("%v, %v", p, is)
	}
	is(t, n, "d")
}

// P14.1: each connection is cut and restored alone, and Heal restores all.
func TestConnections(t *testing.T) {
	for a := range 12 {
		for b := range 12 {
			n := New(12)
			for range 2 {
				n.Cut(a, b, true)
				only(t, n, a, b)
			}
			n.Cut(b, a, false)
			n.Cut(a, 12, false)
			n.Cut(-1, b, false)
			only(t, n, a, b)
			n.Cut(a, b, false)
			only(t, n, -1, -1)
			n.Cut(a, b, true)
			n.Cut(b, a, true)
			n.Heal()
			only(t, n, -1, -1)
		}
	}
}

// only fails unless the connection from a to b is the only one that is cut, if
// these are different nodes, and otherwise none is.
func only(t *testing.T, n *Net, a, b int) {
	t.Helper()
	for i := range 12 {
		for j := range 12 {
			want := i == a && j == b && a != b
			if n.IsCut(i, j) != want {
				t.Fatalf("%d to %d: %d to %d cut: %v", a, b, i, j, !want)
			}
		}
	}
}

// P14.1: what is no connection is never cut.
func TestNoConnection(t *testing.T) {
	n := New(3)
	for _, a := range append(wrong(), 3, 4, 11, 12) {
		for _, b := range append(wrong(), 0, 1, 2, 3, 11, 12) {
			n.Cut(a, b, true)
			n.Cut(b, a, true)
			if n.IsCut(a, b) || n.IsCut(b, a) {
				t.Errorf("%d and %d", a, b)
			}
		}
	}
	for a := range 3 {
		n.Cut(a, a, true)
		for b := range 3 {
			if n.IsCut(a, b) {
				t.Errorf("%d to %d", a, b)
			}
		}
	}
}

// P14.1: a copy has the same state, and neither changes with the other one.
func TestClone(t *testing.T) {
	n := sent(t, "abc")
	n.Cut(1, 2, true)
	c := n.Clone()
	is(t, c, "abc")
	if !c.IsCut(1, 2) || c.IsCut(2, 1) || c.Send(Packet{0, 4, "x"}) {
		t.Errorf("the copy differs")
	}
	ok(t, c.Send(Packet{0, 1, "d"}), n.Send(Packet{0, 1, "e"}), c.Drop(0), n.Last(1))
	c.Heal()
	c.Cut(0, 1, true)
	is(t, c, "bcd")
	is(t, n, "aceb")
	if !n.IsCut(1, 2) || n.IsCut(0, 1) || c.IsCut(1, 2) || !c.IsCut(0, 1) {
		t.Errorf("the connections of one have changed with the other")
	}
	d := c.Clone()
	ok(t, c.Drop(0), c.Drop(0))
	is(t, d, "bcd")
}

// model is a net that keeps its packets in a list that is made anew by each
// call.
type model struct {
	nodes int
	l     []Packet
	cut   map[[2]int]bool
}

// without returns the packets but packet k.
func (m model) without(k int) []Packet {
	var l []Packet
	for i, p := range m.l {
		if i != k {
			l = append(l, p)
		}
	}
	return l
}

// has reports whether there is a packet k.
func (m model) has(k int) bool { return 0 <= k && k < len(m.l) }

// node reports whether i is a node.
func (m model) node(i int) bool { return 0 <= i && i < m.nodes }

// take makes Take of both, and returns whether that returned something and
// whether it should.
func (m *model) take(t *testing.T, n *Net, k int) (got, want bool) {
	t.Helper()
	var q Packet
	if m.has(k) && !m.cut[[2]int{m.l[k].From, m.l[k].To}] {
		q, want = m.l[k], true
	}
	p, got := n.Take(k)
	if p != q {
		t.Fatalf("Take(%d): %v, not %v", k, p, q)
	}
	m.l = m.without(k)
	return got, want
}

// step makes any call of both, and fails unless the results are equal.
func (m *model) step(t *testing.T, n *Net, g *rand.Rand, text string) {
	t.Helper()
	a, b, k := g.Intn(m.nodes+2)-1, g.Intn(m.nodes+2)-1, g.Intn(len(m.l)+2)-1
	connection := m.node(a) && m.node(b) && a != b
	call, got, want := g.Intn(8), false, m.has(k)
	switch call {
	case 0, 1:
		got, want = n.Send(Packet{a, b, text}), connection
		if want {
			m.l = append(slices.Clone(m.l), Packet{a, b, text})
		}
	case 2:
		got, want = m.take(t, n, k)
	case 3:
		got = n.Drop(k)
		m.l = m.without(k)
	case 4:
		if got = n.Again(k); want {
			m.l = append(slices.Clone(m.l), m.l[k])
		}
	case 5:
		if got = n.Last(k); want {
			m.l = append(m.without(k), m.l[k])
		}
	case 6:
		want = false
		m.change(n, a, b, connection, g.Intn(3) > 0)
	case 7:
		want = false
		if g.Intn(10) == 0 {
			n.Heal()
			clear(m.cut)
		}
	}
	if got != want {
		t.Fatalf("call %d of packet %d, or from %d to %d: %v", call, k, a, b, got)
	}
}

// change makes Cut of both.
func (m *model) change(n *Net, a, b int, connection, is bool) {
	n.Cut(a, b, is)
	if connection {
		m.cut[[2]int{a, b}] = is
	}
}

// P14.1, P14.2: any calls, compared with a model: what is in transit, and so
// what arrives, is what was sent, as often as these calls say.
func TestAnyCalls(t *testing.T) {
	g := rand.New(rand.NewSource(1))
	for range 300 {
		m := &model{nodes: 2 + g.Intn(4), cut: map[[2]int]bool{}}
		n := New(m.nodes)
		for i := range 200 {
			m.step(t, n, g, strconv.Itoa(i))
			if got := all(n); !slices.Equal(got, m.l) {
				t.Fatalf("%v, not %v", got, m.l)
			}
			for a := range m.nodes {
				for b := range m.nodes {
					if n.IsCut(a, b) != m.cut[[2]int{a, b}] {
						t.Fatalf("%d to %d cut: %v", a, b, n.IsCut(a, b))
					}
				}
			}
			if g.Intn(20) == 0 {
				n = n.Clone()
			}
		}
	}
}

// P14.2: without calls that lose, block or duplicate packets, each one that
// was sent arrives once, whatever the order is.
func TestEachArrivesOnce(t *testing.T) {
	g := rand.New(rand.NewSource(2))
	n := full(t)
	sent, got := all(n), []Packet{}
	for n.Len() > 0 {
		if g.Intn(3) == 0 {
			ok(t, n.Last(g.Intn(n.Len())))
		}
		p, is := n.Take(g.Intn(n.Len()))
		ok(t, is)
		got = append(got, p)
	}
	byText := func(a, b Packet) int {
		i, _ := strconv.Atoi(a.Text)
		j, _ := strconv.Atoi(b.Text)
		return i - j
	}
	slices.SortFunc(got, byText)
	if !slices.Equal(got, sent) {
		t.Errorf("%d packets of %d", len(got), len(sent))
	}
}
