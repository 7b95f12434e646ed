package clock

import (
	"math"
	"math/rand"
	"testing"

	"chatelaine/api"
	"chatelaine/drift"
)

// wrong returns numbers that are not nodes of any clocks.
func wrong() []int {
	return []int{-1, -2, math.MinInt, api.MaxNodes, 1 << 32, math.MaxInt - 1, math.MaxInt}
}

// goes fails unless Go(n, by) returns want.
func goes(t *testing.T, c *Clocks, n, by int, want bool) {
	t.Helper()
	if got := c.Go(n, by); got != want {
		t.Fatalf("Go(%d, %d): %v", n, by, got)
	}
}

// shows fails unless the clocks of the nodes from 0 on are at these times.
func shows(t *testing.T, c *Clocks, times ...int) {
	t.Helper()
	for n, want := range times {
		if got := c.Now(n); got != want {
			t.Fatalf("node %d: %d, not %d", n, got, want)
		}
	}
	for n := len(times); n <= api.MaxNodes; n++ {
		if got := c.Now(n); got != 0 {
			t.Fatalf("node %d: %d", n, got)
		}
	}
}

// step advances the clocks of the nodes from 0 on, and ends the step.
func step(t *testing.T, c *Clocks, by ...int) {
	t.Helper()
	for n, b := range by {
		goes(t, c, n, b, true)
	}
	c.Step()
}

// fits fails unless Fits(r) returns want, each time that it is called.
func fits(t *testing.T, c *Clocks, r drift.Rate, want bool) {
	t.Helper()
	for range 2 {
		if got := c.Fits(r); got != want {
			t.Fatalf("Fits(%v): %v", r, got)
		}
	}
}

// P15.1: there are 0 to 12 clocks, all at 0.
func TestNew(t *testing.T) {
	numbers := wrong()
	for i := range 40 {
		numbers = append(numbers, i)
	}
	for _, nodes := range append(wrong(), 0, 1, 2, 11, 12, 13) {
		limited := min(max(nodes, 0), 12)
		c := New(nodes)
		for _, n := range numbers {
			if got := c.Now(n); got != 0 {
				t.Errorf("New(%d): node %d at %d", nodes, n, got)
			}
			is := 0 <= n && n < limited
			goes(t, c, n, 5, is)
			if got := c.Now(n); got == 5 != is || got != 5 && got != 0 {
				t.Errorf("New(%d): node %d at %d after Go", nodes, n, got)
			}
		}
	}
}

// P15.1: a clock advances on its own, at most to MaxTime, and never back.
func TestGo(t *testing.T) {
	c := New(3)
	goes(t, c, 0, 4, true)
	goes(t, c, 2, 7, true)
	shows(t, c, 4, 0, 7)
	goes(t, c, 0, 3, true)
	goes(t, c, 0, 0, true)
	goes(t, c, 1, -1, true)
	goes(t, c, 2, -3, true)
	goes(t, c, 2, math.MinInt, true)
	shows(t, c, 7, 0, 7)
	for _, n := range append(wrong(), 3) {
		goes(t, c, n, 9, false)
	}
	shows(t, c, 7, 0, 7)
	c.Step()
	shows(t, c, 7, 0, 7)

	goes(t, c, 0, api.MaxTime-8, true)
	goes(t, c, 1, api.MaxTime+1, true)
	goes(t, c, 2, math.MaxInt, true)
	shows(t, c, api.MaxTime-1, api.MaxTime, api.MaxTime)
	goes(t, c, 0, 2, true)
	goes(t, c, 1, 1, true)
	goes(t, c, 2, math.MaxInt, true)
	goes(t, c, 2, -1, true)
	shows(t, c, api.MaxTime, api.MaxTime, api.MaxTime)
}

// P15.1: the clocks of one New are not those of another one.
func TestClocksAreIndependent(t *testing.T) {
	a, b := New(2), New(2)
	step(t, a, 5, 0)
	shows(t, a, 5, 0)
	shows(t, b, 0, 0)
	fits(t, a, drift.Rate{P: 4, Q: 1}, false)
	fits(t, b, drift.Rate{P: 4, Q: 1}, true)
}

// P15.1: only steps that have ended count, and each of them does for good.
func TestFits(t *testing.T) {
	one, two, four := drift.Rate{P: 1, Q: 1}, drift.Rate{P: 2, Q: 1}, drift.Rate{P: 4, Q: 1}
	c := New(3)
	goes(t, c, 0, 3, true)
	fits(t, c, one, true)
	goes(t, c, 1, 3, true)
	goes(t, c, 2, 1, true)
	goes(t, c, 2, 2, true)
	fits(t, c, one, true)
	c.Step()
	fits(t, c, one, true)
	c.Step()
	fits(t, c, one, true)

	step(t, c, 4, 2, 3)
	fits(t, c, one, false)
	fits(t, c, drift.Rate{P: 199, Q: 100}, false)
	fits(t, c, two, true)
	step(t, c, 3, 5, 4) // the clocks have advanced alike, but not in each step
	fits(t, c, one, false)
	fits(t, c, two, true)
	step(t, c, 1000, 1000, 999)
	fits(t, c, two, true)

	goes(t, c, 1, 1, true)
	fits(t, c, four, true)
	c.Step()
	fits(t, c, four, false)
	step(t, c, 1, 1, 1)
	fits(t, c, four, false)
}

// P15.1: any two clocks are compared, also those of the last nodes.
func TestFitsAnyTwo(t *testing.T) {
	for nodes := 2; nodes <= api.MaxNodes; nodes++ {
		for fast := range nodes {
			for slow := range nodes {
				if fast == slow {
					continue
				}
				c := New(nodes)
				for n := range nodes {
					goes(t, c, n, 30, true)
				}
				goes(t, c, fast, 30, true)
				goes(t, c, slow, 10, true)
				c.Step()
				fits(t, c, drift.Rate{P: 3, Q: 2}, nodes == 2)
				fits(t, c, drift.Rate{P: 2, Q: 1}, true)
			}
		}
	}
}

// P15.1: a rate that Check refuses fits no two clocks.
func TestWrongRates(t *testing.T) {
	for _, r := range []drift.Rate{{}, {P: 1}, {P: 10, Q: 11}, {P: 5, Q: 1}, {P: 1001, Q: 1000}, {P: -1, Q: -1}, {P: math.MaxInt, Q: math.MaxInt}} {
		for nodes := range api.MaxNodes + 1 {
			c := New(nodes)
			fits(t, c, r, true)
			c.Step()
			fits(t, c, r, nodes < 2)
			for n := range nodes {
				goes(t, c, n, 1, true)
			}
			c.Step()
			fits(t, c, r, nodes < 2)
		}
	}
}

// P15.1: a single clock has none to be compared with.
func TestSingleClock(t *testing.T) {
	c := New(1)
	for _, by := range []int{5, 0, 1, math.MaxInt, 7} {
		step(t, c, by)
		fits(t, c, drift.Rate{P: 1, Q: 1}, true)
	}
	c = New(0)
	c.Step()
	fits(t, c, drift.Rate{P: 1, Q: 1}, true)
}

// P15.1: what counts is how far a clock has gone, and at MaxTime it stops.
func TestFitsAtTheEnd(t *testing.T) {
	four := drift.Rate{P: 4, Q: 1}
	c := New(2)
	step(t, c, math.MaxInt, api.MaxTime)
	fits(t, c, drift.Rate{P: 1, Q: 1}, true)
	step(t, c, 5, 0)
	fits(t, c, drift.Rate{P: 1, Q: 1}, true)

	c = New(2)
	step(t, c, api.MaxTime-10, api.MaxTime-20)
	fits(t, c, drift.Rate{P: 1000, Q: 999}, true)
	step(t, c, 10, 20)
	fits(t, c, drift.Rate{P: 2, Q: 1}, true)
	c.Step()
	fits(t, c, drift.Rate{P: 2, Q: 1}, true)

	c = New(2)
	step(t, c, api.MaxTime, api.MaxTime-20)
	step(t, c, 1, 1)
	fits(t, c, four, false)

	c = New(2)
	step(t, c, api.MaxTime, api.MaxTime-1)
	fits(t, c, drift.Rate{P: 1, Q: 1}, false)
	fits(t, c, drift.Rate{P: 1000, Q: 999}, true)

	c = New(2)
	step(t, c, api.MaxTime, api.MaxTime/4)
	fits(t, c, four, true)
	c = New(2)
	step(t, c, api.MaxTime, api.MaxTime/4-1)
	fits(t, c, four, false)
}

// naive is the advances in each step, of each clock.
type naive struct {
	now   []int
	steps [][]int
}

// newNaive returns the clocks of so many nodes, in their first step.
func newNaive(nodes int) *naive {
	return &naive{now: make([]int, nodes), steps: [][]int{make([]int, nodes)}}
}

func (x *naive) step() { x.steps = append(x.steps, make([]int, len(x.now))) }

func (x *naive) advance(n, by int) {
	before := x.now[n]
	x.now[n] = min(before+max(by, 0), api.MaxTime)
	x.steps[len(x.steps)-1][n] += x.now[n] - before
}

// fits compares all pairs of all steps that have ended.
func (x *naive) fits(r drift.Rate) bool {
	for _, by := range x.steps[:len(x.steps)-1] {
		for i := range by {
			for j := range i {
				if !r.Fits(by[i], by[j]) {
					return false
				}
			}
		}
	}
	return true
}

// anyRate returns a rate within its limits.
func anyRate(g *rand.Rand) drift.Rate {
	q := 1 + g.Intn(1000)
	if g.Intn(2) == 0 {
		q = 1 + g.Intn(10)
	}
	return drift.Rate{P: q + g.Intn(min(4*q, 1000)-q+1), Q: q}
}

// around returns an advance that is near to by.
func around(g *rand.Rand, by int) int {
	return by + by/(1+g.Intn(1000)) - by/(1+g.Intn(1000)) + g.Intn(3) - 1
}

// P15.1: after any calls, the clocks are those of the model.
func TestAnyCalls(t *testing.T) {
	g := rand.New(rand.NewSource(1))
	fit := 0
	for range 3000 {
		nodes := g.Intn(6)
		c, x := New(nodes), newNaive(nodes)
		for range 1 + g.Intn(6) {
			by := 1 << g.Intn(41)
			for n := range nodes {
				d := around(g, by)
				goes(t, c, n, d, true)
				x.advance(n, d)
				if g.Intn(20) == 0 {
					d = g.Intn(by) - 5
					goes(t, c, n, d, true)
					x.advance(n, d)
				}
			}
			if g.Intn(8) > 0 {
				c.Step()
				x.step()
			}
			shows(t, c, x.now...)
			for range 20 {
				r := anyRate(g)
				want := x.fits(r)
				fits(t, c, r, want)
				if want {
					fit++
				}
			}
		}
	}
	if fit < 10000 {
		t.Errorf("only %d rates fit", fit)
	}
}

// P15.1: of steps whose factors are almost equal, the one with the greatest
// factor counts, whenever it was.
func TestAlmostEqualSteps(t *testing.T) {
	for _, r := range []drift.Rate{{P: 1000, Q: 999}, {P: 4, Q: 1}, {P: 3, Q: 2}, {P: 997, Q: 251}} {
		f := api.MaxTime / 4 / r.P
		for over := range 2 {
			for widest := range 3 {
				c := New(2)
				for k := range 3 {
					if k == widest {
						step(t, c, r.Q*f, r.P*f+over)
					} else {
						step(t, c, r.Q*f+1, r.P*f)
					}
				}
				fits(t, c, r, over == 0)
			}
		}
	}
}

// P15.2: between any two ends of steps, while Longer(t) passes on one clock,
// at least t passes on every other one.
func TestLongerIsLongEnough(t *testing.T) {
	g := rand.New(rand.NewSource(1))
	tight := 0
	for range 2000 {
		r := anyRate(g)
		nodes := 2 + g.Intn(4)
		c := New(nodes)
		ends := [][]int{times(c, nodes)}
		for range 1 + g.Intn(12) {
			by := 1 << g.Intn(41)
			for n := range nodes {
				d := by
				if g.Intn(2) == 0 {
					d = r.Longer(by) - g.Intn(2)
				}
				goes(t, c, n, d, true)
			}
			c.Step()
			ends = append(ends, times(c, nodes))
		}
		if c.Fits(r) {
			tight += passes(t, r, ends)
		}
	}
	if tight < 1000 {
		t.Errorf("only %d durations were as short as they may be", tight)
	}
}

// times returns what the clocks show.
func times(c *Clocks, nodes int) []int {
	var l []int
	for n := range nodes {
		l = append(l, c.Now(n))
	}
	return l
}

// passes fails unless every other clock has advanced by enough between any two
// ends of steps. It returns how often it was by no more than that.
func passes(t *testing.T, r drift.Rate, ends [][]int) int {
	t.Helper()
	tight := 0
	for i, a := range ends {
		for _, b := range ends[i+1:] {
			for n := range a {
				d := longest(r, b[n]-a[n])
				for m := range a {
					if b[m]-a[m] < d {
						t.Fatalf("%v: %d to %d on clock %d, but %d to %d on clock %d", r, a[n], b[n], n, a[m], b[m], m)
					}
					if b[m]-a[m] == d && d > 0 {
						tight++
					}
				}
			}
		}
	}
	return tight
}

// longest returns the greatest duration whose Longer is at most passed.
func longest(r drift.Rate, passed int) int {
	least, most := 0, passed
	for least < most {
		d := (least + most + 1) / 2
		if r.Longer(d) <= passed {
			least = d
		} else {
			most = d - 1
		}
	}
	return least
}
