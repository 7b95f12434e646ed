package ballot

import (
	"math"
	"math/rand"
	"slices"
	"testing"

	"chatelaine/api"
	"chatelaine/code"
)

// ascending returns ballots, each one greater than the one before.
func ascending() []Ballot {
	var l []Ballot
	for _, c := range []uint64{0, 1, 2, 3, 251, 252, 1 << 32, 1<<63 - 1, 1 << 63, math.MaxUint64 - 1, math.MaxUint64} {
		for n := range api.MaxNodes {
			l = append(l, Ballot{C: c, N: n})
		}
	}
	return l
}

// P8.1: C is compared, and then N.
func TestCompare(t *testing.T) {
	l := ascending()
	for i, a := range l {
		for j, b := range l {
			want := 0
			if i < j {
				want = -1
			} else if i > j {
				want = 1
			}
			if got := Compare(a, b); got != want {
				t.Errorf("Compare(%v, %v): %d", a, b, got)
			}
		}
	}
}

// P8.1: only the zero ballot is none.
func TestNone(t *testing.T) {
	for i, b := range ascending() {
		if b.None() != (i == 0) {
			t.Errorf("%v: %v", b, b.None())
		}
	}
}

// P8.1: the greatest of a list, wherever it is, and of the zero ballot.
func TestMax(t *testing.T) {
	if b := Max(); b != (Ballot{}) {
		t.Errorf("none: %v", b)
	}
	for _, c := range []struct {
		l    []Ballot
		want Ballot
	}{
		{[]Ballot{}, Ballot{}},
		{[]Ballot{{}, {}}, Ballot{}},
		{[]Ballot{{0, 3}}, Ballot{0, 3}},
		{[]Ballot{{4, 2}}, Ballot{4, 2}},
		{[]Ballot{{4, 2}, {4, 3}, {3, 11}}, Ballot{4, 3}},
		{[]Ballot{{4, 3}, {4, 2}, {5, 0}}, Ballot{5, 0}},
		{[]Ballot{{5, 0}, {}, {5, 0}, {4, 11}}, Ballot{5, 0}},
		{[]Ballot{{1 << 63, 0}, {1, 1}}, Ballot{1 << 63, 0}},
	} {
		if got := Max(c.l...); got != c.want {
			t.Errorf("%v: %v", c.l, got)
		}
	}
	g := rand.New(rand.NewSource(1))
	l := ascending()
	for range 1000 {
		most := g.Intn(len(l))
		some := slices.Clone(l[:most+1])
		g.Shuffle(len(some), func(i, j int) { some[i], some[j] = some[j], some[i] })
		given := slices.Clone(some)
		if got := Max(some...); got != l[most] || !slices.Equal(some, given) {
			t.Fatalf("%v: %v", given, got)
		}
	}
}

// next fails unless Next(b, n) is want.
func next(t *testing.T, b Ballot, n int, want Ballot) {
	t.Helper()
	if got, e := Next(b, n); got != want || e != api.OK {
		t.Errorf("Next(%v, %d): %v, %d, not %v", b, n, got, e, want)
	}
}

// fails fails unless Next(b, n) returns the error e.
func fails(t *testing.T, b Ballot, n int, e api.Errno) {
	t.Helper()
	if got, err := Next(b, n); got != (Ballot{}) || err != e {
		t.Errorf("Next(%v, %d): %v, %d, not %d", b, n, got, err, e)
	}
}

// P8.1: the example, and the counters at both ends.
func TestNext(t *testing.T) {
	next(t, Ballot{4, 2}, 3, Ballot{4, 3})
	next(t, Ballot{4, 2}, 11, Ballot{4, 11})
	next(t, Ballot{4, 2}, 2, Ballot{5, 2})
	next(t, Ballot{4, 2}, 1, Ballot{5, 1})
	next(t, Ballot{4, 2}, 0, Ballot{5, 0})
	next(t, Ballot{4, 11}, 11, Ballot{5, 11})
	next(t, Ballot{1 << 63, 7}, 6, Ballot{1<<63 + 1, 6})
	const top = math.MaxUint64
	for n := range api.MaxNodes {
		for last := range api.MaxNodes {
			next(t, Ballot{0, last}, n, Ballot{1, n})
			if n > last {
				next(t, Ballot{top - 1, last}, n, Ballot{top - 1, n})
				next(t, Ballot{top, last}, n, Ballot{top, n})
			} else {
				next(t, Ballot{top - 1, last}, n, Ballot{top, n})
				fails(t, Ballot{top, last}, n, api.ErrExhausted)
			}
		}
	}
}

// P8.1: there is no such node; that is found before an exhausted counter.
func TestNextOfNoNode(t *testing.T) {
	for _, n := range []int{-1, -11, 12, 13, 32, 1 << 32, math.MinInt, math.MaxInt} {
		for _, b := range []Ballot{{}, {1, 0}, {4, 2}, {math.MaxUint64, 0}, {math.MaxUint64, 11}} {
			fails(t, b, n, api.ErrRange)
		}
	}
}

// P8.1, P8.2: Next is greater, of the given node, and the least such ballot
// with a counter of at least 1.
func TestNextIsTheLeast(t *testing.T) {
	for _, b := range ascending() {
		for n := range api.MaxNodes {
			got, e := Next(b, n)
			if e != api.OK {
				continue
			}
			if got.N != n || got.C < 1 || got.None() || Compare(got, b) != 1 {
				t.Errorf("Next(%v, %d): %v", b, n, got)
			}
			if less := (Ballot{got.C - 1, n}); less.C >= 1 && Compare(less, b) > 0 {
				t.Errorf("Next(%v, %d): %v, not %v", b, n, got, less)
			}
		}
	}
}

// P8.2: whichever ballots the nodes have seen, no two of their own are equal.
func TestNodesDoNotShareBallots(t *testing.T) {
	g := rand.New(rand.NewSource(1))
	owner := map[Ballot]int{}
	seen := []Ballot{{}}
	for range 5000 {
		b, n := seen[g.Intn(len(seen))], g.Intn(api.MaxNodes)
		own, e := Next(b, n)
		if last, found := owner[own]; e != api.OK || found && last != n {
			t.Fatalf("Next(%v, %d): %v, %d, which is of node %d", b, n, own, e, last)
		}
		owner[own] = n
		seen = append(seen, own)
	}
}

// P8.1: the bytes of a ballot, after what was appended before.
func TestPut(t *testing.T) {
	for _, c := range []struct {
		b    Ballot
		want string
	}{
		{Ballot{}, "\x00\x00"},
		{Ballot{1, 0}, "\x01\x00"},
		{Ballot{1, 1}, "\x01\x01"},
		{Ballot{300, 11}, "\xfc\x01\x2c\x0b"},
		{Ballot{math.MaxUint64, 5}, "\xfe\xff\xff\xff\xff\xff\xff\xff\xff\x05"},
	} {
		var w code.Writer
		c.b.Put(w.U(7))
		c.b.Put(&w)
		if got := w.Text(); got != "\x07"+c.want+c.want {
			t.Errorf("%v: %x", c.b, got)
		}
	}
}

// P8.3: Get returns what was put, and reads no more than that.
func TestGetReturnsWhatWasPut(t *testing.T) {
	var w code.Writer
	var l []Ballot
	for _, b := range ascending() {
		if b.C > 0 || b.None() {
			l = append(l, b)
			b.Put(&w)
		}
	}
	r := code.Read(w.Text())
	for _, b := range l {
		if got := Get(r); got != b || r.Err() != api.OK {
			t.Errorf("%v: %v, %d", b, got, r.Err())
		}
	}
	if e := r.Done(); e != api.OK {
		t.Errorf("at the end: %d", e)
	}
}

// P8.3: bytes from which Get reads a ballot are those that Put appends.
func TestPutAppendsWhatWasRead(t *testing.T) {
	g := rand.New(rand.NewSource(1))
	found := 0
	for range 100000 {
		s := make([]byte, g.Intn(12))
		g.Read(s)
		if len(s) > 1 && g.Intn(2) == 0 {
			s[1] %= 16
		}
		r := code.Read(string(s))
		b := Get(r)
		if r.Err() != api.OK {
			continue
		}
		var w code.Writer
		b.Put(&w)
		if w.Text() != string(s[:len(s)-r.Left()]) {
			t.Fatalf("%x: %v is %x", s, b, w.Text())
		}
		found++
	}
	if found < 1000 {
		t.Errorf("only %d ballots", found)
	}
}

// P8.1: the errors of Get, with which it returns the zero ballot, and so do
// later calls.
func TestErrorsOfGet(t *testing.T) {
	for _, c := range []struct {
		s    string
		want api.Errno
	}{
		{"", api.ErrEnd},
		{"\x05", api.ErrEnd},
		{"\xfc\x01", api.ErrEnd},
		{"\x05\xfc\x01", api.ErrEnd},
		{"\xff\x01", api.ErrForm},
		{"\xfc\x00\x05\x01", api.ErrForm},
		{"\x05\xff", api.ErrForm},
		{"\x05\xfc\x00\x05", api.ErrForm},
		{"\x05\x0c", api.ErrBig},
		{"\x05\xfb", api.ErrBig},
		{"\x05\xfe\xff\xff\xff\xff\xff\xff\xff\xff", api.ErrBig},
		{"\x00\x0c", api.ErrBig},
		{"\x00\x01", api.ErrForm},
		{"\x00\x0b", api.ErrForm},
	} {
		s := c.s
		if c.want != api.ErrEnd {
			s += "\x01\x01" // a ballot, which no later call may read
		}
		r := code.Read(s)
		for range 2 {
			if b := Get(r); b != (Ballot{}) || r.Err() != c.want {
				t.Errorf("%x: %v, %d, not %d", c.s, b, r.Err(), c.want)
			}
		}
	}
}

// P8.1: an error that the reader has already is kept.
func TestGetAfterAnError(t *testing.T) {
	for _, s := range []string{"\x05\x02", "\x00\x01", "\x05\x0c", ""} {
		r := code.Read(s)
		r.Fail(api.ErrSum)
		if b := Get(r); b != (Ballot{}) || r.Err() != api.ErrSum {
			t.Errorf("%x: %v, %d", s, b, r.Err())
		}
	}
}
