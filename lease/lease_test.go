package lease

import (
	"math"
	"math/rand"
	"slices"
	"testing"

	"chatelaine/api"
	"chatelaine/drift"
	"chatelaine/grid"
)

// one is the configuration of a single node.
func one() grid.Config {
	k := grid.Kind{Zones: 1, Nodes: 1}
	return grid.Config{Regions: 1, Per: 1, First: k, Second: k}
}

// three is the configuration of three regions of one node, of which node 2 is a
// witness; a quorum of the first kind is all of them, and one of the second
// kind two of them.
func three() grid.Config {
	return grid.Config{Regions: 3, Per: 1, Witness: grid.Set(2), First: grid.Kind{Zones: 3, Nodes: 1}, Second: grid.Kind{Zones: 2, Nodes: 1}}
}

// row is the configuration of four nodes; any of them is a quorum of the second
// kind.
func row() grid.Config {
	return grid.Config{Regions: 1, Per: 4, First: grid.Kind{Zones: 1, Nodes: 4}, Second: grid.Kind{Zones: 1, Nodes: 1}}
}

// most is the configuration of three nodes; any two of them are a quorum of
// both kinds.
func most() grid.Config {
	k := grid.Kind{Zones: 2, Nodes: 1}
	return grid.Config{Regions: 3, Per: 1, First: k, Second: k}
}

// nine is a configuration of three regions of three nodes, without witnesses.
func nine() grid.Config {
	k := grid.Kind{Zones: 2, Nodes: 2}
	return grid.Config{Regions: 3, Per: 3, First: k, Second: k}
}

// configs returns valid configurations.
func configs() []grid.Config {
	four := grid.Config{Regions: 4, Per: 3, Witness: grid.Set(0, 5, 11), First: grid.Kind{Zones: 4, Nodes: 2}, Second: grid.Kind{Zones: 2, Nodes: 3}}
	return []grid.Config{one(), three(), row(), most(), nine(), four}
}

// asks fails unless Ask(now) returns want.
func asks(t *testing.T, l *Lease, now int, want bool) {
	t.Helper()
	if got := l.Ask(now); got != want {
		t.Fatalf("Ask(%d): %v", now, got)
	}
}

// grants fails unless Granted(from, time) returns want.
func grants(t *testing.T, l *Lease, from, time int, want bool) {
	t.Helper()
	if got := l.Granted(from, time); got != want {
		t.Fatalf("Granted(%d, %d): %v", from, time, got)
	}
}

// ends fails unless the lease is held until a time.
func ends(t *testing.T, l *Lease, until int) {
	t.Helper()
	if got := l.Until(); got != until {
		t.Fatalf("until %d, not %d", got, until)
	}
	for _, now := range []int{0, max(until-1, 0), until, until + 1, api.MaxTime, math.MaxInt} {
		if got := l.Holds(now); got != (now < until) {
			t.Fatalf("until %d, Holds(%d): %v", until, now, got)
		}
	}
}

// asked fails unless the last round began at a time.
func asked(t *testing.T, l *Lease, at int) {
	t.Helper()
	if got, is := l.Asked(); got != at || !is {
		t.Fatalf("%d, %v, not %d", got, is, at)
	}
}

// isNew fails unless the lease is in its initial state.
func isNew(t *testing.T, l *Lease) {
	t.Helper()
	if at, is := l.Asked(); at != 0 || is || l.Yields() || l.Until() != 0 {
		t.Fatalf("asked %d, %v; yields %v; until %d", at, is, l.Yields(), l.Until())
	}
	for _, now := range []int{math.MinInt, -1, 0, 1, api.MaxTime, math.MaxInt} {
		if l.Holds(now) {
			t.Fatalf("holds at %d", now)
		}
	}
}

// P20.1: the example.
func TestExample(t *testing.T) {
	l := New(one(), 10)
	asks(t, l, 5, true)
	grants(t, l, 0, 5, true)
	ends(t, l, 15)
	if !l.Holds(5) || !l.Holds(14) || l.Holds(15) {
		t.Error("not until 15")
	}
}

// P20.1: a new lease is not held, and without a round nothing counts.
func TestNew(t *testing.T) {
	for _, c := range configs() {
		for _, term := range []int{math.MinInt, -1, 0, 1, 10, api.MaxTerm, math.MaxInt} {
			l := New(c, term)
			isNew(t, l)
			for from := range c.Len() {
				grants(t, l, from, 0, false)
			}
			isNew(t, l)
		}
	}
	a, b := New(one(), 10), New(one(), 10)
	asks(t, a, 1, true)
	grants(t, a, 0, 1, true)
	a.Yield()
	isNew(t, b)
}

// P20.1: a round is all that Ask begins; the lease goes on as it was.
func TestAsk(t *testing.T) {
	l := New(one(), 10)
	for _, now := range []int{0, 3, 3, 20, 7} {
		asks(t, l, now, true)
		asked(t, l, now)
		ends(t, l, 0)
	}
	grants(t, l, 0, 7, true)
	ends(t, l, 17)
	asks(t, l, 12, true)
	asked(t, l, 12)
	ends(t, l, 17)
}

// P20.1: a lease needs a quorum of the second kind, and further votes leave it
// held.
func TestQuorum(t *testing.T) {
	l := New(three(), 10)
	asks(t, l, 5, true)
	grants(t, l, 1, 5, false)
	ends(t, l, 0)
	grants(t, l, 2, 5, true)
	ends(t, l, 15)
	grants(t, l, 0, 5, true)
	ends(t, l, 15)

	l = New(nine(), 10)
	asks(t, l, 5, true)
	for _, from := range []int{0, 3, 6, 8} {
		grants(t, l, from, 5, false)
	}
	ends(t, l, 0)
	grants(t, l, 1, 5, true)
	grants(t, l, 7, 5, true)
	grants(t, l, 2, 5, true)
	ends(t, l, 15)
}

// P20.1: any nodes are enough that are a quorum of the second kind, in any
// order, and no others are.
func TestAnyQuorum(t *testing.T) {
	g := rand.New(rand.NewSource(1))
	for _, c := range configs() {
		for range 200 {
			l := New(c, 10)
			asks(t, l, 5, true)
			var set uint32
			for _, from := range g.Perm(c.Len()) {
				set |= 1 << from
				grants(t, l, from, 5, c.IsSecond(set))
				if c.IsSecond(set) {
					ends(t, l, 15)
				} else {
					ends(t, l, 0)
				}
			}
		}
	}
}

// P20.1: a node counts once in a round, and only nodes count.
func TestGrantedTwice(t *testing.T) {
	l := New(three(), 10)
	asks(t, l, 5, true)
	for range 3 {
		grants(t, l, 1, 5, false)
	}
	for _, from := range []int{math.MinInt, -1, 3, 4, 31, 32, 33, 64, 65, math.MaxInt} {
		grants(t, l, from, 5, false)
	}
	ends(t, l, 0)
	grants(t, l, 0, 5, true)
	// A vote that does not count is no reason to hold it.
	for _, from := range []int{0, 1, -1, 3, 32} {
		grants(t, l, from, 5, false)
	}
	ends(t, l, 15)
}

// P20.1: a grant counts only for the last round.
func TestGrantedOtherTime(t *testing.T) {
	l := New(three(), 10)
	asks(t, l, 5, true)
	for _, time := range []int{math.MinInt, -5, 0, 4, 6, 15, api.MaxTime, math.MaxInt} {
		for from := range 3 {
			grants(t, l, from, time, false)
		}
	}
	ends(t, l, 0)
	grants(t, l, 0, 5, false)
	asks(t, l, 8, true)
	// Neither those of the first round count, nor do they arrive in time.
	grants(t, l, 1, 8, false)
	grants(t, l, 0, 5, false)
	grants(t, l, 2, 5, false)
	ends(t, l, 0)
	grants(t, l, 2, 8, true)
	ends(t, l, 18)
	grants(t, l, 0, 5, false)
	grants(t, l, 0, 19, false)
	ends(t, l, 18)
	grants(t, l, 0, 8, true)
	ends(t, l, 18)
}

// P20.1: a round that begins at the time of an earlier one is another one.
func TestSameTime(t *testing.T) {
	l := New(three(), 10)
	asks(t, l, 5, true)
	grants(t, l, 0, 5, false)
	asks(t, l, 5, true)
	grants(t, l, 1, 5, false)
	ends(t, l, 0)
	grants(t, l, 0, 5, true)
	ends(t, l, 15)
	asks(t, l, 5, true)
	grants(t, l, 0, 5, false)
	ends(t, l, 15)
	grants(t, l, 1, 5, true)
	ends(t, l, 15)
}

// P20.1: a lease ends the term after its last round, or later.
func TestUntil(t *testing.T) {
	l := New(one(), 10)
	for _, c := range []struct{ now, until int }{{0, 10}, {9, 19}, {9, 19}, {3, 19}, {8, 19}, {10, 20}, {100, 110}, {0, 110}} {
		asks(t, l, c.now, true)
		grants(t, l, 0, c.now, true)
		asked(t, l, c.now)
		ends(t, l, c.until)
	}
}

// P20.1: the term is 0 to 2^16, and no end is after MaxTime.
func TestTerm(t *testing.T) {
	for _, c := range []struct{ term, now, until int }{
		{0, 0, 0}, {0, 7, 7}, {-1, 7, 7}, {math.MinInt, 7, 7}, {1, 7, 8},
		{65535, 7, 65542}, {65536, 7, 65543}, {65537, 7, 65543}, {math.MaxInt, 7, 65543},
		{10, 1<<40 - 11, 1<<40 - 1}, {10, 1<<40 - 10, 1 << 40}, {10, 1<<40 - 9, 1 << 40},
		{10, 1 << 40, 1 << 40}, {10, 1<<40 + 1, 1 << 40}, {10, math.MaxInt, 1 << 40},
		{10, -1, 10}, {10, math.MinInt, 10},
	} {
		l := New(one(), c.term)
		asks(t, l, c.now, true)
		asked(t, l, c.now)
		grants(t, l, 0, c.now, true)
		ends(t, l, c.until)
	}
}

// P20.1: after Yield no round begins, but the last one goes on.
func TestYield(t *testing.T) {
	l := New(three(), 10)
	asks(t, l, 5, true)
	grants(t, l, 0, 5, false)
	for range 2 {
		l.Yield()
		if !l.Yields() {
			t.Fatal("does not yield")
		}
		asks(t, l, 6, false)
		asked(t, l, 5)
	}
	grants(t, l, 1, 6, false)
	ends(t, l, 0)
	grants(t, l, 1, 5, true)
	ends(t, l, 15)
	asks(t, l, 9, false)
	asked(t, l, 5)
	grants(t, l, 2, 5, true)
	ends(t, l, 15)

	l = New(one(), 10)
	l.Yield()
	asks(t, l, 0, false)
	grants(t, l, 0, 0, false)
	if at, is := l.Asked(); at != 0 || is {
		t.Errorf("asked at %d, %v", at, is)
	}
}

// P20.1: Reset returns to the initial state, with the same nodes and term.
func TestReset(t *testing.T) {
	l := New(three(), 10)
	for range 3 {
		asks(t, l, 5, true)
		grants(t, l, 0, 5, false)
		grants(t, l, 1, 5, true)
		ends(t, l, 15)
		l.Yield()
		l.Reset()
		isNew(t, l)
		// The grants before do not count any more.
		grants(t, l, 2, 5, false)
		isNew(t, l)
		asks(t, l, 5, true)
		grants(t, l, 2, 5, false)
		ends(t, l, 0)
		l.Reset()
		isNew(t, l)
	}
}

// P20.1: a node that grants waits for the term on a clock that may be slower.
func TestLong(t *testing.T) {
	for _, c := range []struct{ p, q, term, want int }{
		{11, 10, 20, 22}, {11, 10, 21, 24}, {11, 10, 0, 0}, {11, 10, -1, 0}, {11, 10, math.MinInt, 0},
		{1, 1, 7, 7}, {4, 1, 7, 28}, {3, 2, 1, 2}, {3, 2, 2, 3},
		{4, 1, 65535, 262140}, {4, 1, 65536, 262144}, {4, 1, 65537, 262144}, {4, 1, math.MaxInt, 262144},
		{1, 2, 7, 7}, {5, 1, 7, 7}, {0, 0, 7, 7}, {1001, 1000, 65537, 65536},
	} {
		if got := Long(drift.Rate{P: c.p, Q: c.q}, c.term); got != c.want {
			t.Errorf("%d/%d, %d: %d, not %d", c.p, c.q, c.term, got, c.want)
		}
	}
}

// P1: a configuration that is refused has no quorum.
func TestWrongConfig(t *testing.T) {
	for _, c := range []grid.Config{{}, {Regions: math.MaxInt, Per: math.MaxInt}, {Regions: 1, Per: 1, Witness: 1, First: one().First, Second: one().Second}} {
		l := New(c, 10)
		asks(t, l, 0, true)
		for from := range 3 {
			grants(t, l, from, 0, false)
		}
		ends(t, l, 0)
	}
}

// model is a lease as the chapter describes it: the grants that count of each
// round, and the end that they make.
type model struct {
	c      grid.Config
	term   int
	rounds []int // when they began
	votes  []int // the nodes that have granted in the last one
	until  int
	yields bool
}

func (x *model) ask(now int) bool {
	if x.yields {
		return false
	}
	x.rounds, x.votes = append(x.rounds, now), nil
	return true
}

func (x *model) granted(from, time int) bool {
	n := len(x.rounds)
	if n == 0 || x.rounds[n-1] != time || from < 0 || from >= x.c.Len() || slices.Contains(x.votes, from) {
		return false
	}
	x.votes = append(x.votes, from)
	if !x.c.IsSecond(grid.Set(x.votes...)) {
		return false
	}
	x.until = max(x.until, time+x.term)
	return true
}

// call makes one call of the lease and of the model.
func call(t *testing.T, g *rand.Rand, l *Lease, x *model) {
	t.Helper()
	switch k := g.Intn(100); {
	case k < 12:
		now := g.Intn(30)
		asks(t, l, now, x.ask(now))
	case k < 94:
		from, time := g.Intn(x.c.Len()+2)-1, g.Intn(30)
		if n := len(x.rounds); n > 0 && g.Intn(8) > 0 {
			time = x.rounds[max(0, n-1-g.Intn(2)*g.Intn(2))]
		}
		grants(t, l, from, time, x.granted(from, time))
	case k < 96:
		l.Yield()
		x.yields = true
	default:
		l.Reset()
		*x = model{c: x.c, term: x.term}
	}
}

// P20.1: after any calls, a lease is the model.
func TestAnyCalls(t *testing.T) {
	g := rand.New(rand.NewSource(2))
	held := 0
	for i := range 2000 {
		c, term := configs()[i%len(configs())], g.Intn(12)
		l, x := New(c, term), &model{c: c, term: term}
		for range 150 {
			before := x.until
			call(t, g, l, x)
			ends(t, l, x.until)
			if n := len(x.rounds); n > 0 {
				asked(t, l, x.rounds[n-1])
			} else if at, is := l.Asked(); at != 0 || is {
				t.Fatalf("asked at %d, %v", at, is)
			}
			if l.Yields() != x.yields {
				t.Fatalf("yields: %v", l.Yields())
			}
			if x.until > before {
				held++
			}
		}
	}
	if held < 2000 {
		t.Errorf("only %d rounds held the lease for longer", held)
	}
}
