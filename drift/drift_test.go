package drift

import (
	"math"
	"math/big"
	"math/rand"
	"testing"

	"chatelaine/api"
)

// wrong are rates out of their limits, and odd are times out of theirs.
var (
	wrong = []Rate{
		{}, {1, 0}, {0, 1}, {1, -1}, {-1, -1}, {-1, 1}, {-11, -10},
		{10, 11}, {999, 1000}, {1000, 1001},
		{1001, 1000}, {1001, 1001}, {1001, 251}, {2000, 1000},
		{5, 1}, {41, 10}, {1000, 249}, {999, 249}, {1000, 1},
		{math.MaxInt, 1}, {math.MaxInt, math.MaxInt}, {math.MinInt, math.MinInt},
		{1000, math.MaxInt}, {1000, math.MaxInt/4 + 1}, {1, math.MinInt}, {math.MinInt, 1},
		{4, math.MaxInt/2 + 2},
	}
	odd = []int{-1, -2, math.MinInt, math.MinInt + 1, api.MaxTime + 1, 2 * api.MaxTime, math.MaxInt - 1, math.MaxInt}
)

// right returns rates within the limits, the extreme ones among them.
func right() []Rate {
	l := []Rate{{1, 1}, {11, 10}, {4, 1}, {3, 2}, {1000, 1000}, {1000, 250}, {1000, 999}, {997, 250}, {7, 3}}
	g := rand.New(rand.NewSource(1))
	for range 100 {
		q := 1 + g.Intn(1000)
		l = append(l, Rate{q + g.Intn(min(4*q, 1000)-q+1), q})
	}
	return l
}

// times returns times from 0 to MaxTime, the extreme ones among them.
func times(g *rand.Rand) []int {
	l := []int{0, 1, 2, 3, 10, 20, 21, 999, 1000, 1001, api.MaxTime - 1, api.MaxTime}
	for range 20 {
		l = append(l, int(g.Uint64()%(api.MaxTime+1))>>g.Intn(41))
	}
	return l
}

// product returns a times b, however great it is.
func product(a, b int) *big.Int {
	return new(big.Int).Mul(big.NewInt(int64(a)), big.NewInt(int64(b)))
}

// atMost reports whether a times b is at most c times d.
func atMost(a, b, c, d int) bool { return product(a, b).Cmp(product(c, d)) <= 0 }

// nearest returns the time from 0 to MaxTime that is nearest to t.
func nearest(t int) int {
	if t < 0 {
		return 0
	}
	if t > api.MaxTime {
		return api.MaxTime
	}
	return t
}

// P4.1: the limits of a rate.
func TestCheck(t *testing.T) {
	for _, r := range right() {
		if e := r.Check(); e != api.OK {
			t.Errorf("%v: %d", r, e)
		}
	}
	for _, r := range wrong {
		if e := r.Check(); e != api.ErrConfig {
			t.Errorf("%v: %d", r, e)
		}
	}
	for p := -2; p <= 1010; p++ {
		for _, q := range []int{-1, 0, 1, 2, 3, 100, 249, 250, 251, 999, 1000, 1001} {
			want := api.OK
			if q < 1 || p < q || p > 1000 || p > 4*q {
				want = api.ErrConfig
			}
			if e := (Rate{p, q}).Check(); e != want {
				t.Errorf("%d/%d: %d, not %d", p, q, e, want)
			}
		}
	}
}

// P4.1: Fits at and beside the limits of the rate.
func TestFits(t *testing.T) {
	for _, c := range []struct {
		r    Rate
		a, b int
		want bool
	}{
		{Rate{1, 1}, 0, 0, true},
		{Rate{1, 1}, 7, 7, true},
		{Rate{1, 1}, 7, 8, false},
		{Rate{1, 1}, 8, 7, false},
		{Rate{11, 10}, 10, 11, true},
		{Rate{11, 10}, 11, 10, true},
		{Rate{11, 10}, 12, 10, false},
		{Rate{11, 10}, 10, 12, false},
		{Rate{11, 10}, 1, 2, false},
		{Rate{11, 10}, 0, 1, false},
		{Rate{4, 1}, 1, 4, true},
		{Rate{4, 1}, 4, 1, true},
		{Rate{4, 1}, 5, 1, false},
		{Rate{4, 1}, 0, 1, false},
		{Rate{4, 1}, api.MaxTime, api.MaxTime / 4, true},
		{Rate{4, 1}, api.MaxTime, api.MaxTime/4 - 1, false},
		{Rate{1000, 1000}, api.MaxTime, api.MaxTime, true},
		{Rate{1000, 1000}, api.MaxTime - 1, api.MaxTime, false},
		{Rate{1000, 999}, api.MaxTime - 1, api.MaxTime, true},
	} {
		if got := c.r.Fits(c.a, c.b); got != c.want {
			t.Errorf("%v: Fits(%d, %d): %v", c.r, c.a, c.b, got)
		}
	}
	for _, r := range right() {
		for a := range 50 {
			for b := range 50 {
				if got := r.Fits(a, b); got != (a*r.Q <= b*r.P && b*r.Q <= a*r.P) {
					t.Fatalf("%v: Fits(%d, %d): %v", r, a, b, got)
				}
			}
		}
	}
}

// P4.1: nothing fits out of the limits.
func TestNothingFitsOutOfTheLimits(t *testing.T) {
	for _, r := range right() {
		for _, a := range odd {
			if r.Fits(a, a) || r.Fits(a, 0) || r.Fits(0, a) || r.Fits(a, api.MaxTime) || r.Fits(api.MaxTime, a) {
				t.Errorf("%v: %d fits", r, a)
			}
		}
		if !r.Fits(api.MaxTime, api.MaxTime) || !r.Fits(0, 0) {
			t.Errorf("%v: the limits do not fit", r)
		}
	}
	for _, r := range wrong {
		if r.Fits(0, 0) || r.Fits(5, 5) || r.Fits(api.MaxTime, api.MaxTime) {
			t.Errorf("%v: fits", r)
		}
	}
}

// P4.1: the example, and the two ends.
func TestLongerAndShorter(t *testing.T) {
	for _, c := range []struct {
		r                  Rate
		t, longer, shorter int
	}{
		{Rate{11, 10}, 20, 22, 18},
		{Rate{11, 10}, 21, 24, 19},
		{Rate{11, 10}, 0, 0, 0},
		{Rate{11, 10}, 1, 2, 0},
		{Rate{11, 10}, 11, 13, 10},
		{Rate{4, 1}, 7, 28, 1},
		{Rate{4, 1}, api.MaxTime, 4 * api.MaxTime, api.MaxTime / 4},
		{Rate{1, 1}, api.MaxTime, api.MaxTime, api.MaxTime},
		{Rate{1000, 1000}, api.MaxTime - 1, api.MaxTime - 1, api.MaxTime - 1},
		{Rate{3, 2}, 1, 2, 0},
		{Rate{3, 2}, 3, 5, 2},
	} {
		if got := c.r.Longer(c.t); got != c.longer {
			t.Errorf("%v: Longer(%d) = %d, not %d", c.r, c.t, got, c.longer)
		}
		if got := c.r.Shorter(c.t); got != c.shorter {
			t.Errorf("%v: Shorter(%d) = %d, not %d", c.r, c.t, got, c.shorter)
		}
	}
}

// P4.1, P4.2: Longer is the least time that is enough, and Shorter the
// greatest one that has passed for sure.
func TestRounding(t *testing.T) {
	g := rand.New(rand.NewSource(2))
	for _, r := range right() {
		for _, x := range times(g) {
			// The slowest clock advances by Q while this one advances by P.
			if n := r.Longer(x); !atMost(x, r.P, n, r.Q) || n > 0 && atMost(x, r.P, n-1, r.Q) {
				t.Fatalf("%v: Longer(%d) = %d", r, x, n)
			}
			if n := r.Shorter(x); !atMost(n, r.P, x, r.Q) || atMost(n+1, r.P, x, r.Q) || n < 0 {
				t.Fatalf("%v: Shorter(%d) = %d", r, x, n)
			}
		}
	}
}

// P4.1: times out of the limits count as the nearest one, and a wrong rate
// leaves them as they are.
func TestLimitsOfLongerAndShorter(t *testing.T) {
	for _, r := range right() {
		for _, x := range odd {
			if r.Longer(x) != r.Longer(nearest(x)) || r.Shorter(x) != r.Shorter(nearest(x)) {
				t.Errorf("%v: %d: %d, %d", r, x, r.Longer(x), r.Shorter(x))
			}
		}
	}
	l := append(times(rand.New(rand.NewSource(3))), odd...)
	for _, r := range wrong {
		for _, x := range l {
			if r.Longer(x) != nearest(x) || r.Shorter(x) != nearest(x) {
				t.Errorf("%v: %d: %d, %d", r, x, r.Longer(x), r.Shorter(x))
			}
		}
	}
}

// P4.2: whatever fits: while Longer(t) passes, at least t passes elsewhere,
// and while t passes, at least Shorter(t).
func TestWhatPassesElsewhere(t *testing.T) {
	for _, r := range right() {
		for x := range 60 {
			for b := range 250 {
				if b < x && r.Fits(r.Longer(x), b) {
					t.Fatalf("%v: %d passes during Longer(%d)", r, b, x)
				}
				if b < r.Shorter(x) && r.Fits(x, b) {
					t.Fatalf("%v: %d passes, less than Shorter(%d)", r, b, x)
				}
			}
		}
	}
	g := rand.New(rand.NewSource(4))
	for _, r := range right() {
		for _, x := range times(g) {
			if n := r.Longer(x); x > 0 && n <= api.MaxTime && r.Fits(n, x-1) {
				t.Fatalf("%v: %d passes during Longer(%d)", r, x-1, x)
			}
			if n := r.Shorter(x); n > 0 && r.Fits(x, n-1) {
				t.Fatalf("%v: %d passes, less than Shorter(%d)", r, n-1, x)
			}
		}
	}
}

// P4.2: the same for a time that passes in several steps that fit.
func TestWhatPassesInSteps(t *testing.T) {
	g := rand.New(rand.NewSource(5))
	for _, r := range right() {
		goal := r.Longer(500)
		a, b := 0, 0
		for a < goal {
			x := min(1+g.Intn(40), goal-a)
			// The least advance of another clock that fits this step.
			y := (x*r.Q + r.P - 1) / r.P
			if !r.Fits(x, y) {
				t.Fatalf("%v: %d and %d do not fit", r, x, y)
			}
			a, b = a+x, b+y
			if b < r.Shorter(a) {
				t.Fatalf("%v: %d passes during %d", r, b, a)
			}
		}
		if b < 500 {
			t.Fatalf("%v: %d passes during Longer(500)", r, b)
		}
	}
}

// P4.3: if each step fits, their sum does.
func TestSumsFit(t *testing.T) {
	g := rand.New(rand.NewSource(6))
	for _, r := range right() {
		a, b := 0, 0
		for range 2000 {
			x, y := g.Intn(1<<20), g.Intn(1<<20)
			switch g.Intn(3) {
			case 0:
				x, y = g.Intn(4), g.Intn(4)
			case 1: // as far apart as may be
				x, y = r.P*g.Intn(1000), r.Q*g.Intn(1000)
			}
			if !r.Fits(x, y) {
				continue
			}
			a, b = a+x, b+y
			if !r.Fits(a, b) || !r.Fits(b, a) {
				t.Fatalf("%v: the sums %d and %d do not fit", r, a, b)
			}
		}
		// All steps at the limit of the rate, in the same direction.
		n := api.MaxTime / r.P
		if !r.Fits(r.P, r.Q) || !r.Fits(n*r.P, n*r.Q) {
			t.Errorf("%v: %d steps do not fit", r, n)
		}
	}
}

// P4.1: Later adds, with both arguments and the sum within the limits.
func TestLater(t *testing.T) {
	for _, c := range []struct{ t, by, want int }{
		{0, 0, 0},
		{3, 4, 7},
		{-1, 4, 4},
		{4, -1, 4},
		{-5, -5, 0},
		{math.MinInt, math.MinInt, 0},
		{math.MinInt, math.MaxInt, api.MaxTime},
		{math.MaxInt, math.MaxInt, api.MaxTime},
		{math.MaxInt, -5, api.MaxTime},
		{api.MaxTime, 0, api.MaxTime},
		{api.MaxTime, 1, api.MaxTime},
		{api.MaxTime + 1, 0, api.MaxTime},
		{api.MaxTime - 1, 1, api.MaxTime},
		{api.MaxTime - 2, 1, api.MaxTime - 1},
		{1, api.MaxTime - 2, api.MaxTime - 1},
		{api.MaxTime / 2, api.MaxTime / 2, api.MaxTime},
	} {
		if got := Later(c.t, c.by); got != c.want {
			t.Errorf("Later(%d, %d) = %d, not %d", c.t, c.by, got, c.want)
		}
	}
}
