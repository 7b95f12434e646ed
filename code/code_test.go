package code

import (
	"math"
	"math/rand"
	"strings"
	"testing"

	"chatelaine/api"
)

// P1.1: every form of a number, at both of its ends.
func TestNumbersAreEncoded(t *testing.T) {
	for _, c := range []struct {
		v    uint64
		want string
	}{
		{0, "\x00"},
		{1, "\x01"},
		{251, "\xfb"},
		{252, "\xfc\x00\xfc"},
		{255, "\xfc\x00\xff"},
		{300, "\xfc\x01\x2c"},
		{1<<16 - 1, "\xfc\xff\xff"},
		{1 << 16, "\xfd\x00\x01\x00\x00"},
		{0x12345678, "\xfd\x12\x34\x56\x78"},
		{1<<32 - 1, "\xfd\xff\xff\xff\xff"},
		{1 << 32, "\xfe\x00\x00\x00\x01\x00\x00\x00\x00"},
		{0x123456789abcdef0, "\xfe\x12\x34\x56\x78\x9a\xbc\xde\xf0"},
		{math.MaxUint64, "\xfe\xff\xff\xff\xff\xff\xff\xff\xff"},
	} {
		var u, n Writer
		if got := u.U(c.v).Text(); got != c.want {
			t.Errorf("U(%d): %x, not %x", c.v, got, c.want)
		}
		if c.v > math.MaxInt {
			continue
		}
		if got := n.N(int(c.v)).Text(); got != c.want {
			t.Errorf("N(%d): %x, not %x", c.v, got, c.want)
		}
	}
}

// P1.1: for N, a negative number counts as 0.
func TestNegativeNumbersCountAsZero(t *testing.T) {
	var w Writer
	if got := w.N(-1, 5, math.MinInt).Text(); got != "\x00\x05\x00" {
		t.Errorf("%x", got)
	}
}

// P1.1: booleans and strings; the length of a string is a number.
func TestBooleansAndStringsAreEncoded(t *testing.T) {
	var b Writer
	if got := b.B(true, false, true).Text(); got != "\x01\x00\x01" {
		t.Errorf("B: %x", got)
	}
	for _, c := range []struct {
		n    int
		head string
	}{
		{0, "\x00"}, {2, "\x02"}, {251, "\xfb"}, {252, "\xfc\x00\xfc"},
		{1<<16 - 1, "\xfc\xff\xff"}, {1 << 16, "\xfd\x00\x01\x00\x00"},
	} {
		var w Writer
		s := strings.Repeat("\xff", c.n)
		if got := w.S(s).Text(); got != c.head+s {
			t.Errorf("S of %d bytes is wrong", c.n)
		}
	}
}

// P1.1: arguments are appended in order, calls as well, and each call returns
// the Writer itself.
func TestWriterAppends(t *testing.T) {
	var w Writer
	if w.Text() != "" || w.U().N().B().S().Text() != "" {
		t.Errorf("nothing was appended, but there is %x", w.Text())
	}
	if w.U(5, 300) != &w || w.N(7) != &w || w.B(true) != &w || w.S("ab", "", "c") != &w {
		t.Error("a call returned another Writer")
	}
	want := "\x05\xfc\x01\x2c\x07\x01\x02ab\x00\x01c"
	if w.Text() != want || w.Text() != want {
		t.Errorf("%x, not %x", w.Text(), want)
	}
	before := w.Text()
	if w.U([]uint64{1, 2}...); w.Text() != want+"\x01\x02" || before != want {
		t.Errorf("%x after %x", w.Text(), before)
	}
}

// P1.2: the values of different kinds, one after the other.
func TestReaderProceeds(t *testing.T) {
	r := Read("\x05\xfc\x01\x2c\x01\x00\x02ab\x00\x09")
	if r.Left() != 11 || r.Err() != api.OK {
		t.Errorf("at the beginning: %d left, %d", r.Left(), r.Err())
	}
	if u, n, b, c := r.U(), r.N(300), r.B(), r.B(); u != 5 || n != 300 || !b || c {
		t.Errorf("%d, %d, %v, %v", u, n, b, c)
	}
	if s, e := r.S(2), r.S(0); s != "ab" || e != "" {
		t.Errorf("%q, %q", s, e)
	}
	if r.Left() != 1 || r.Err() != api.OK {
		t.Errorf("%d left, %d", r.Left(), r.Err())
	}
	if r.U() != 9 || r.Left() != 0 || r.Done() != api.OK || r.Err() != api.OK {
		t.Errorf("at the end: %d left, %d", r.Left(), r.Err())
	}
}

// What can be read from a Reader.
var calls = map[string]func(r *Reader) bool{
	"U":       func(r *Reader) bool { return r.U() != 0 },
	"N(300)":  func(r *Reader) bool { return r.N(300) != 0 },
	"N(0)":    func(r *Reader) bool { return r.N(0) != 0 },
	"N(-1)":   func(r *Reader) bool { return r.N(-1) != 0 },
	"N(most)": func(r *Reader) bool { return r.N(math.MaxInt) != 0 },
	"B":       func(r *Reader) bool { return r.B() },
	"S(2)":    func(r *Reader) bool { return r.S(2) != "" },
	"S(-1)":   func(r *Reader) bool { return r.S(-1) != "" },
	"S(most)": func(r *Reader) bool { return r.S(math.MaxInt) != "" },
}

// P1.2: each error, and that it is the first that applies.
func TestDecodingErrors(t *testing.T) {
	for _, c := range []struct {
		call, s string
		want    api.Errno
	}{
		{"U", "", api.ErrEnd},
		{"U", "\xff", api.ErrForm},
		{"U", "\xff\x00\x00\x00\x00\x00\x00\x00\x00", api.ErrForm},
		{"U", "\xfc", api.ErrEnd},
		{"U", "\xfc\x00", api.ErrEnd},
		{"U", "\xfd\x00\x00\x00", api.ErrEnd},
		{"U", "\xfe\x00\x00\x00\x00\x00\x00\x00", api.ErrEnd},
		{"U", "\xfc\x00\x05", api.ErrForm},
		{"U", "\xfc\x00\xfb", api.ErrForm},
		{"U", "\xfd\x00\x00\xff\xff", api.ErrForm},
		{"U", "\xfd\x00\x00\x00\x05", api.ErrForm},
		{"U", "\xfe\x00\x00\x00\x00\xff\xff\xff\xff", api.ErrForm},
		{"U", "\xfe\x00\x00\x00\x00\x00\x00\x00\x00", api.ErrForm},
		{"N(300)", "", api.ErrEnd},
		{"N(300)", "\xff", api.ErrForm},
		{"N(300)", "\xfc\x01\x2d", api.ErrBig},
		{"N(300)", "\xfe\x00\x00\x00\x01\x00\x00\x00", api.ErrEnd},
		{"N(300)", "\xfd\x00\x00\x01\x2d", api.ErrForm},
		{"N(300)", "\xfe\xff\xff\xff\xff\xff\xff\xff\xff", api.ErrBig},
		{"N(0)", "\x01", api.ErrBig},
		{"N(0)", "\xfc\x00\x01", api.ErrForm},
		{"N(-1)", "\x01", api.ErrBig},
		{"N(most)", "\xfe\x80\x00\x00\x00\x00\x00\x00\x00", api.ErrBig},
		{"B", "", api.ErrEnd},
		{"B", "\x02", api.ErrForm},
		{"B", "\xfc", api.ErrForm},
		{"B", "\xfc\x00\x01", api.ErrForm},
		{"B", "\xff", api.ErrForm},
		{"S(2)", "", api.ErrEnd},
		{"S(2)", "\xff", api.ErrForm},
		{"S(2)", "\xfc\x00", api.ErrEnd},
		{"S(2)", "\xfc\x00\x03abc", api.ErrForm},
		{"S(2)", "\x03abc", api.ErrBig},
		{"S(2)", "\x03", api.ErrBig},
		{"S(2)", "\x02a", api.ErrEnd},
		{"S(-1)", "\x01a", api.ErrBig},
		{"S(most)", "\x01", api.ErrEnd},
		{"S(most)", "\xfe\x7f\xff\xff\xff\xff\xff\xff\xffab", api.ErrEnd},
		{"S(most)", "\xfe\xff\xff\xff\xff\xff\xff\xff\xffab", api.ErrBig},
	} {
		r := Read(c.s)
		if some := calls[c.call](r); some || r.Err() != c.want {
			t.Errorf("%s of %x: %d, not %d, or a value (%v)", c.call, c.s, r.Err(), c.want, some)
		}
		if r.Done() != c.want {
			t.Errorf("Done after %s of %x: %d", c.call, c.s, r.Done())
		}
	}
}

// P1.2: a limit itself is permitted, and a negative one counts as 0.
func TestLimitsArePermitted(t *testing.T) {
	if r := Read("\xfc\x01\x2c"); r.N(300) != 300 || r.Done() != api.OK {
		t.Errorf("N(300): %d", r.Err())
	}
	if r := Read("\xfe\x7f\xff\xff\xff\xff\xff\xff\xff"); r.N(math.MaxInt) != math.MaxInt || r.Done() != api.OK {
		t.Errorf("N(MaxInt): %d", r.Err())
	}
	if r := Read("\x00\x00"); r.N(-1) != 0 || r.S(math.MinInt) != "" || r.Done() != api.OK {
		t.Errorf("a negative limit: %d", r.Err())
	}
	if r := Read("\x02ab"); r.S(2) != "ab" || r.Done() != api.OK {
		t.Errorf("S(2): %d", r.Err())
	}
}

// P1.2: the first error is kept, and from then on all results are zero.
func TestFirstErrorIsKept(t *testing.T) {
	for name, call := range calls {
		r := Read("\x01\x01\x01\x01\x01\x01")
		if r.Fail(api.ErrStale); r.Err() != api.ErrStale {
			t.Errorf("Fail: %d", r.Err())
		}
		if call(r) || call(r) || r.Err() != api.ErrStale {
			t.Errorf("%s has a value after an error, or %d", name, r.Err())
		}
		if r.Fail(api.ErrBig); r.Done() != api.ErrStale {
			t.Errorf("%s: %d has replaced the error", name, r.Err())
		}
	}
	r := Read("\x02\x01\x01a\x01")
	if r.B() || r.B() || r.S(5) != "" || r.U() != 0 || r.N(5) != 0 || r.Err() != api.ErrForm {
		t.Errorf("a value after an error, or %d", r.Err())
	}
}

// P1.2: Fail with OK is no error, and an error outlasts it.
func TestFailWithOK(t *testing.T) {
	r := Read("\x07")
	if r.Fail(api.OK); r.Err() != api.OK || r.U() != 7 || r.Done() != api.OK {
		t.Errorf("Fail(OK): %d", r.Err())
	}
	r.Fail(api.ErrNone)
	if r.Fail(api.OK); r.Err() != api.ErrNone {
		t.Errorf("Fail(OK) has removed an error: %d", r.Err())
	}
}

// P1.2: Done sets ErrForm if bytes are left.
func TestDoneWithBytesLeft(t *testing.T) {
	r := Read("\x07\x08")
	if r.U() != 7 || r.Err() != api.OK || r.Done() != api.ErrForm || r.Err() != api.ErrForm {
		t.Errorf("%d", r.Err())
	}
	if r.U() != 0 || r.Done() != api.ErrForm {
		t.Errorf("a value after Done, or %d", r.Err())
	}
	if e := Read("").Done(); e != api.OK {
		t.Errorf("nothing is left: %d", e)
	}
}

// text returns n bytes; many of them begin the longer forms of numbers.
func text(g *rand.Rand, n int) string {
	b := make([]byte, n)
	for i := range b {
		switch g.Intn(3) {
		case 0:
			b[i] = byte(g.Intn(4))
		case 1:
			b[i] = byte(250 + g.Intn(6))
		default:
			b[i] = byte(g.Intn(256))
		}
	}
	return string(b)
}

// P1.2, P1.3: any bytes are an error, or a value whose encoding they are.
func TestAnyBytesHaveOneReading(t *testing.T) {
	check := func(s string) {
		for name, call := range calls {
			r := Read(s)
			some := call(r)
			if r.Err() != api.OK && some {
				t.Fatalf("%s of %x has an error and a value", name, s)
			}
		}
		r := Read(s)
		var w Writer
		if v := r.U(); r.Err() == api.OK && w.U(v).Text() != s[:len(s)-r.Left()] {
			t.Fatalf("%x is a second encoding of %d", s, v)
		}
		r, w = Read(s), Writer{}
		if v := r.B(); r.Err() == api.OK && w.B(v).Text() != s[:len(s)-r.Left()] {
			t.Fatalf("%x is a second encoding of %v", s, v)
		}
		r, w = Read(s), Writer{}
		if v := r.S(len(s)); r.Err() == api.OK && w.S(v).Text() != s[:len(s)-r.Left()] {
			t.Fatalf("%x is a second encoding of %q", s, v)
		}
	}
	for a := range 256 {
		check(string([]byte{byte(a)}))
		for b := range 256 {
			check(string([]byte{byte(a), byte(b)}))
			check(string([]byte{252, byte(a), byte(b)}))
			check(string([]byte{253, 0, byte(a), byte(b), 1}))
		}
	}
	g := rand.New(rand.NewSource(1))
	for range 20000 {
		check(text(g, g.Intn(14)))
	}
}

// P1.3: what was encoded is decoded, whatever is before and after it.
func TestDecodingReversesEncoding(t *testing.T) {
	g := rand.New(rand.NewSource(2))
	for range 3000 {
		u := g.Uint64() >> g.Intn(64)
		n := int(g.Uint64() >> (1 + g.Intn(63)))
		b := g.Intn(2) == 1
		s := text(g, g.Intn(600))
		var w Writer
		r := Read(w.S(s).B(b).N(n).U(u).S(s).Text())
		if x := r.S(len(s)); x != s {
			t.Fatalf("S: %x, not %x", x, s)
		}
		if x := r.B(); x != b {
			t.Fatalf("B: %v, not %v", x, b)
		}
		if x := r.N(n); x != n {
			t.Fatalf("N: %d, not %d", x, n)
		}
		if x := r.U(); x != u {
			t.Fatalf("U: %d, not %d", x, u)
		}
		if x := r.S(len(s)); x != s || r.Done() != api.OK {
			t.Fatalf("S: %x, not %x, or %d", x, s, r.Err())
		}
	}
}

// P1.3: different values have different encodings, none of which begins
// another one; otherwise values could not be decoded one after the other.
func TestEncodingsDiffer(t *testing.T) {
	values := []uint64{0, 1, 250, 251, 252, 253, 254, 255, 256, 1<<16 - 1, 1 << 16, 1<<24 + 5, 1<<32 - 1, 1 << 32, 1<<40 + 1, math.MaxUint64}
	for i, a := range values {
		for j, b := range values {
			var v, w Writer
			if i != j && strings.HasPrefix(w.U(b).Text(), v.U(a).Text()) {
				t.Errorf("the encoding of %d begins that of %d", a, b)
			}
		}
	}
}

// P1.2: what was truncated anywhere is an error, never another value.
func TestTruncatedValues(t *testing.T) {
	for _, v := range []uint64{5, 300, 1 << 20, 1 << 50} {
		var w Writer
		s := w.U(v).Text()
		for n := range len(s) {
			if r := Read(s[:n]); r.U() != 0 || r.Err() != api.ErrEnd {
				t.Errorf("%x: %d", s[:n], r.Err())
			}
		}
	}
	var w Writer
	s := w.S(strings.Repeat("x", 260)).Text()
	for n := range len(s) {
		if r := Read(s[:n]); r.S(260) != "" || r.Err() != api.ErrEnd {
			t.Errorf("%d bytes of a string: %d", n, r.Err())
		}
	}
}
