package steal

import (
	"math"
	"math/rand"
	"testing"

	"chatelaine/api"
)

// policy is the one that most tests use.
var policy = Policy{Least: 2, Span: 10}

// touches records uses from a region, which there is.
func touches(t *testing.T, b *Board, region int, times ...int) {
	t.Helper()
	for _, now := range times {
		if !b.Touch(region, now) {
			t.Fatalf("Touch(%d, %d) is false", region, now)
		}
	}
}

// counts fails unless so many uses from a region count at now.
func counts(t *testing.T, b *Board, region, now, want int) {
	t.Helper()
	if got := b.Count(region, now); got != want {
		t.Fatalf("Count(%d, %d): %d, not %d", region, now, got, want)
	}
}

// busiest fails unless Busiest(now) returns a region and its count.
func busiest(t *testing.T, b *Board, now, region, count int) {
	t.Helper()
	if r, n := b.Busiest(now); r != region || n != count {
		t.Fatalf("Busiest(%d): %d, %d, not %d, %d", now, r, n, region, count)
	}
}

// wants fails unless Wants(region, now) returns want.
func wants(t *testing.T, b *Board, region, now int, want bool) {
	t.Helper()
	if got := b.Wants(region, now); got != want {
		t.Fatalf("Wants(%d, %d): %v", region, now, got)
	}
}

// gives fails unless a node of a region gives way to another one.
func gives(t *testing.T, b *Board, region, now, to int) {
	t.Helper()
	if got, is := b.Gives(region, now); got != to || !is {
		t.Fatalf("Gives(%d, %d): %d, %v, not %d", region, now, got, is, to)
	}
}

// keeps fails unless a node of a region does not give way.
func keeps(t *testing.T, b *Board, region, now int) {
	t.Helper()
	if got, is := b.Gives(region, now); got != 0 || is {
		t.Fatalf("Gives(%d, %d): %d, %v", region, now, got, is)
	}
}

// isEmpty fails unless the board has no uses.
func isEmpty(t *testing.T, b *Board) {
	t.Helper()
	for _, now := range []int{0, 1, 9, 10, api.MaxTime} {
		for r := -1; r <= api.MaxRegions; r++ {
			counts(t, b, r, now, 0)
			wants(t, b, r, now, false)
			keeps(t, b, r, now)
		}
		busiest(t, b, now, -1, 0)
	}
}

// P21.1: the example.
func TestExample(t *testing.T) {
	b := New(policy, 2)
	touches(t, b, 1, 5, 9)
	wants(t, b, 1, 9, true)
	wants(t, b, 1, 15, false)
}

// P21.1: the limits of a policy.
func TestCheck(t *testing.T) {
	for _, c := range []struct {
		p    Policy
		want api.Errno
	}{
		{Policy{1, 1}, api.OK}, {Policy{64, 1}, api.OK}, {Policy{1, 65536}, api.OK}, {Policy{64, 65536}, api.OK}, {Policy{2, 10}, api.OK},
		{Policy{}, api.ErrConfig}, {Policy{0, 10}, api.ErrConfig}, {Policy{-1, 10}, api.ErrConfig}, {Policy{65, 10}, api.ErrConfig},
		{Policy{2, 0}, api.ErrConfig}, {Policy{2, -1}, api.ErrConfig}, {Policy{2, 65537}, api.ErrConfig}, {Policy{65, 65537}, api.ErrConfig},
		{Policy{math.MinInt, 10}, api.ErrConfig}, {Policy{math.MaxInt, 10}, api.ErrConfig},
		{Policy{2, math.MinInt}, api.ErrConfig}, {Policy{2, math.MaxInt}, api.ErrConfig},
	} {
		if got := c.p.Check(); got != c.want {
			t.Errorf("%v: %d, not %d", c.p, got, c.want)
		}
	}
	if MaxTimes != 64 {
		t.Errorf("MaxTimes is %d", MaxTimes)
	}
}

// P21.1: a board has a meter for each region, of at most MaxRegions.
func TestRegions(t *testing.T) {
	for _, c := range []struct{ regions, want int }{
		{math.MinInt, 0}, {-1, 0}, {0, 0}, {1, 1}, {2, 2}, {3, 3}, {4, 4}, {5, 4}, {math.MaxInt, 4},
	} {
		b := New(policy, c.regions)
		isEmpty(t, b)
		for _, r := range []int{math.MinInt, -4, -1, c.want, c.want + 1, 5, 64, math.MaxInt} {
			if b.Touch(r, 5) {
				t.Errorf("%d regions: Touch(%d) is true", c.regions, r)
			}
			counts(t, b, r, 5, 0)
			wants(t, b, r, 5, false)
			keeps(t, b, r, 5)
		}
		isEmpty(t, b)
		for r := range c.want {
			touches(t, b, r, 5)
			for o := range c.want {
				if o <= r {
					counts(t, b, o, 5, 1)
				} else {
					counts(t, b, o, 5, 0)
				}
			}
		}
	}
}

// P21.1: a use counts from its own time on, for less than Span.
func TestCount(t *testing.T) {
	b := New(policy, 1)
	touches(t, b, 0, 20)
	for now := range 50 {
		want := 0
		if 20 <= now && now < 30 {
			want = 1
		}
		counts(t, b, 0, now, want)
	}
	touches(t, b, 0, 20, 25, 31)
	for now, want := range map[int]int{19: 0, 20: 2, 24: 2, 25: 3, 29: 3, 30: 1, 31: 2, 34: 2, 35: 1, 40: 1, 41: 0} {
		counts(t, b, 0, now, want)
	}
	// That a use is too old, or not yet, does not make it forgotten.
	counts(t, b, 0, 20, 2)
}

// P21.1: the least and the greatest span, and the first and the last time.
func TestSpan(t *testing.T) {
	b := New(Policy{Least: 1, Span: 1}, 1)
	touches(t, b, 0, 0, 7)
	for now, want := range map[int]int{0: 1, 1: 0, 6: 0, 7: 1, 8: 0} {
		counts(t, b, 0, now, want)
		wants(t, b, 0, now, want == 1)
	}
	b = New(Policy{Least: 1, Span: api.MaxTerm}, 1)
	touches(t, b, 0, 0, api.MaxTime)
	for now, want := range map[int]int{0: 1, 65535: 1, 65536: 0, 1<<40 - 1: 0, 1 << 40: 1} {
		counts(t, b, 0, now, want)
	}
}

// P21.1: the last 64 uses are known, in the order in which they were recorded.
func TestMaxTimes(t *testing.T) {
	b := New(Policy{Least: MaxTimes, Span: api.MaxTerm}, 2)
	for i := range 300 {
		wants(t, b, 1, 1000, i >= 64)
		touches(t, b, 1, i)
		counts(t, b, 1, 1000, min(i+1, 64))
		counts(t, b, 0, 1000, 0)
		// Uses 0 to i are recorded, and the last 64 of them are known.
		counts(t, b, 1, i/2, max(0, i/2+1-max(0, i-63)))
	}
	b.Reset()
	for i := range 64 {
		touches(t, b, 1, 500-i)
	}
	counts(t, b, 1, 500, 64)
	// The oldest one is forgotten although its time is the greatest.
	touches(t, b, 1, 3)
	counts(t, b, 1, 500, 64)
	counts(t, b, 1, 499, 64)
	counts(t, b, 1, 498, 63)
	touches(t, b, 1, 600)
	counts(t, b, 1, 500, 63)
	counts(t, b, 1, 600, 64)
}

// P21.1: Busiest is the region with the greatest count, the least of several.
func TestBusiest(t *testing.T) {
	b := New(policy, 4)
	touches(t, b, 2, 5)
	busiest(t, b, 4, -1, 0)
	busiest(t, b, 5, 2, 1)
	busiest(t, b, 14, 2, 1)
	busiest(t, b, 15, -1, 0)
	touches(t, b, 3, 6)
	busiest(t, b, 6, 2, 1)
	busiest(t, b, 15, 3, 1)
	touches(t, b, 3, 6)
	busiest(t, b, 6, 3, 2)
	touches(t, b, 0, 6, 7)
	busiest(t, b, 6, 3, 2)
	busiest(t, b, 7, 0, 2)
	touches(t, b, 1, 7, 7, 7)
	busiest(t, b, 7, 1, 3)
	busiest(t, b, 16, 1, 3)
	busiest(t, b, 17, -1, 0)
}

// P21.1: a region wants a subtree from Least uses on.
func TestWants(t *testing.T) {
	for least := 1; least <= MaxTimes; least++ {
		b := New(Policy{Least: least, Span: 10}, 3)
		for i := range 70 {
			wants(t, b, 1, 5, i >= least)
			wants(t, b, 0, 5, false)
			touches(t, b, 1, 5)
		}
		wants(t, b, 1, 4, false)
		wants(t, b, 1, 14, true)
		wants(t, b, 1, 15, false)
	}
}

// P21.1: a node gives way to the busiest region, if that has used the subtree
// enough, and more.
func TestGives(t *testing.T) {
	b := New(policy, 3)
	touches(t, b, 1, 5)
	keeps(t, b, 0, 5) // less than Least
	touches(t, b, 1, 6)
	keeps(t, b, 0, 5) // not yet
	gives(t, b, 0, 6, 1)
	gives(t, b, 2, 14, 1)
	keeps(t, b, 1, 6)  // its own region
	keeps(t, b, 0, 15) // no longer
	touches(t, b, 0, 6)
	gives(t, b, 0, 6, 1)
	gives(t, b, 2, 6, 1)
	touches(t, b, 0, 6)
	keeps(t, b, 0, 6) // as many
	keeps(t, b, 1, 6) // as many, though the other region is the busiest one
	gives(t, b, 2, 6, 0)
	touches(t, b, 0, 6)
	gives(t, b, 1, 6, 0)
	touches(t, b, 2, 7, 7, 7, 7)
	gives(t, b, 0, 7, 2)
	gives(t, b, 1, 7, 2)
	keeps(t, b, 2, 7)
	gives(t, b, 2, 6, 0)
}

// P21.1: a region that there is not has no uses, but may be asked.
func TestGivesNoRegion(t *testing.T) {
	b := New(policy, 2)
	for _, r := range []int{math.MinInt, -1, 2, 4, math.MaxInt} {
		keeps(t, b, r, 5)
	}
	touches(t, b, 1, 5, 5)
	for _, r := range []int{math.MinInt, -1, 2, 4, math.MaxInt} {
		gives(t, b, r, 5, 1)
	}
}

// P21.1: Reset removes all uses, and only of its board.
func TestReset(t *testing.T) {
	b, o := New(policy, 3), New(policy, 3)
	for range 3 {
		for r := range 3 {
			for now := range 100 {
				touches(t, b, r, now)
			}
		}
		touches(t, o, 1, 5)
		b.Reset()
		isEmpty(t, b)
		touches(t, b, 2, 50)
		counts(t, b, 2, 50, 1)
		counts(t, b, 2, 99, 0)
		b.Reset()
		isEmpty(t, b)
	}
	counts(t, o, 1, 5, 3)
}

// P1: every call ends, with any numbers; a use that is later, or long ago, does
// not count, however far away it is.
func TestAnyNumbers(t *testing.T) {
	numbers := []int{math.MinInt, math.MinInt + 1, -1 << 41, -1, 0, 1, 5, api.MaxTime, math.MaxInt - 1, math.MaxInt}
	for _, least := range numbers {
		for _, span := range numbers {
			for _, now := range numbers {
				b := New(Policy{Least: least, Span: span}, 2)
				b.Touch(now, now)
				touches(t, b, 1, now)
				for _, at := range numbers {
					b.Busiest(at)
					b.Wants(at, at)
					b.Gives(at, at)
				}
			}
		}
	}
	b := New(policy, 1)
	touches(t, b, 0, numbers...)
	for now, want := range map[int]int{math.MinInt: 1, math.MinInt + 1: 2, -1 << 41: 1, 0: 2, 5: 4, api.MaxTime: 1, math.MaxInt: 2} {
		counts(t, b, 0, now, want)
	}
}

// use is one call of Touch.
type use struct{ region, now int }

// model is a board as the chapter describes it: all uses, in order.
type model struct {
	p       Policy
	regions int
	uses    []use
}

func (x *model) count(region, now int) int {
	var times []int
	for _, u := range x.uses {
		if u.region == region {
			times = append(times, u.now)
		}
	}
	n := 0
	for _, u := range times[max(0, len(times)-64):] {
		if u <= now && u > now-x.p.Span {
			n++
		}
	}
	return n
}

func (x *model) busiest(now int) (int, int) {
	best, most := -1, 0
	for r := x.regions - 1; r >= 0; r-- {
		if n := x.count(r, now); n > 0 && n >= most {
			best, most = r, n
		}
	}
	return best, most
}

// check fails unless the board answers as the model does, and P21.2 holds.
func (x *model) check(t *testing.T, b *Board, now int) int {
	t.Helper()
	best, most := x.busiest(now)
	busiest(t, b, now, best, most)
	given := 0
	for r := range x.regions {
		n := x.count(r, now)
		counts(t, b, r, now, n)
		wants(t, b, r, now, n >= x.p.Least)
		if best == r || most < x.p.Least || most <= n {
			keeps(t, b, r, now)
			continue
		}
		gives(t, b, r, now, best)
		given++
		if !b.Wants(best, now) {
			t.Fatalf("P21.2: %d gives way to %d, which does not want it", r, best)
		}
		if to, is := b.Gives(best, now); is && to == r {
			t.Fatalf("P21.2: %d and %d give way to each other", r, best)
		}
	}
	return given
}

// P21.1 and P21.2: after any calls, a board is the model, and no two regions
// give way to each other.
func TestAnyCalls(t *testing.T) {
	g := rand.New(rand.NewSource(1))
	given := 0
	for range 400 {
		x := &model{p: Policy{Least: 1 + g.Intn(12), Span: 1 + g.Intn(60)}, regions: 1 + g.Intn(4)}
		if g.Intn(4) == 0 {
			x.p = Policy{Least: 1 + g.Intn(64), Span: 1 + g.Intn(1000)}
		}
		b, now, favourite := New(x.p, x.regions), 0, 0
		for range 300 {
			switch k := g.Intn(100); {
			case k < 12:
				now += g.Intn(6)
			case k < 15:
				favourite = g.Intn(x.regions)
			case k == 15 && g.Intn(3) == 0:
				b.Reset()
				x.uses = nil
			default:
				u := use{favourite, max(0, now-g.Intn(4)*g.Intn(20))}
				if g.Intn(3) == 0 {
					u.region = g.Intn(x.regions)
				}
				touches(t, b, u.region, u.now)
				x.uses = append(x.uses, u)
			}
			given += x.check(t, b, now)
			given += x.check(t, b, g.Intn(now+80))
		}
	}
	if given < 10000 {
		t.Errorf("only %d times a region gave way", given)
	}
}
