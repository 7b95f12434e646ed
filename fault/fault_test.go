package fault

import (
	"errors"
	"fmt"
	"math"
	"math/rand"
	"slices"
	"strings"
	"testing"

	"chatelaine/api"
)

// plain is an error of another package, that wraps nothing.
type plain string

func (p plain) Error() string { return string(p) }

// around is an error of another package, that wraps another one. It cannot be
// compared.
type around struct {
	in    error
	other []int
}

func (a around) Error() string { return "around" }
func (a around) Unwrap() error { return a.in }

// liar is an error of another package, that says that it is every fault.
type liar struct{}

func (liar) Error() string { return "liar" }
func (liar) As(target any) bool {
	f, ok := target.(**Fault)
	if ok {
		*f = &Fault{Code: api.ErrHeld, Where: "lie"}
	}
	return ok
}

// broken is an error of another package, whose Unwrap panics if it is nil.
type broken struct{ in error }

func (b *broken) Error() string { return "broken" }
func (b *broken) Unwrap() error { return b.in }

// ring is an error of another package, that unwraps to itself.
type ring struct{}

func (r *ring) Error() string { return "ring" }
func (r *ring) Unwrap() error { return r }

// expect fails unless the code, the trail and the text of err are these.
func expect(t *testing.T, err error, code api.Errno, text string, trail ...string) {
	t.Helper()
	if got := Code(err); got != code {
		t.Errorf("%q: Code is %d, not %d", text, got, code)
	}
	if got := Trail(err); !slices.Equal(got, trail) {
		t.Errorf("%q: Trail is %q, not %q", text, got, trail)
	}
	if got := Text(err); got != text {
		t.Errorf("Text is %q, not %q", got, text)
	}
	if f, ok := err.(*Fault); ok && f.Error() != text {
		t.Errorf("Error is %q, not %q", f.Error(), text)
	}
}

// P3.1: nil is no error, and Wrap leaves it as it is.
func TestNoError(t *testing.T) {
	expect(t, nil, api.OK, "")
	if err := Of(api.OK); err != nil {
		t.Errorf("Of(OK): %v", err)
	}
	if err := New(api.OK, "here"); err != nil {
		t.Errorf("New(OK): %v", err)
	}
	if err := Wrap(nil, "here"); err != nil {
		t.Errorf("Wrap(nil): %v", err)
	}
}

// P3.1: a fault without a cause, of any code.
func TestOfAndNew(t *testing.T) {
	for _, c := range []api.Errno{api.ErrInval, api.ErrBusy, api.ErrLate, 23, 1000, -1, math.MaxInt, math.MinInt} {
		f, ok := Of(c).(*Fault)
		if !ok || *f != (Fault{Code: c}) {
			t.Fatalf("Of(%d): %v", c, f)
		}
		expect(t, f, c, fmt.Sprintf("code %d", int(c)))
		f, ok = New(c, "at").(*Fault)
		if !ok || *f != (Fault{Code: c, Where: "at"}) {
			t.Fatalf("New(%d): %v", c, f)
		}
		expect(t, f, c, fmt.Sprintf("at: code %d", int(c)), "at")
		if f.Unwrap() != nil {
			t.Errorf("New(%d) unwraps to %v", c, f.Unwrap())
		}
	}
	if Of(api.ErrBusy) == Of(api.ErrBusy) {
		t.Error("two faults share memory")
	}
}

// P3.1: Wrap puts a fault around any error.
func TestWrap(t *testing.T) {
	other := errors.New("other")
	for _, err := range []error{other, Of(api.ErrBusy), New(api.ErrIO, "disk"), around{in: other}, around{in: Of(api.ErrEnd)}, (*Fault)(nil)} {
		f, ok := Wrap(err, "node").(*Fault)
		if !ok || f.Where != "node" || f.Code != Code(err) {
			t.Fatalf("%T: %v", err, f)
		}
		if _, comparable := err.(around); !comparable && (f.Cause != err || f.Unwrap() != err) {
			t.Errorf("%T: the cause is %v", err, f.Cause)
		}
		if fmt.Sprintf("%T", f.Unwrap()) != fmt.Sprintf("%T", err) {
			t.Errorf("%T: unwraps to %T", err, f.Unwrap())
		}
	}
	if f := Wrap(Of(api.ErrBusy), "").(*Fault); f.Where != "" || Code(f.Cause) != api.ErrBusy {
		t.Errorf("no place: %v", f)
	}
}

// P3.1: the example, and chains with errors of other packages.
func TestChains(t *testing.T) {
	busy := Of(api.ErrBusy)
	expect(t, Wrap(Wrap(busy, "slot 7"), "node 2"), api.ErrBusy, "node 2: slot 7: code 21", "node 2", "slot 7")
	expect(t, Wrap(Wrap(Wrap(busy, ""), "a"), ""), api.ErrBusy, "a: code 21", "a")
	expect(t, Wrap(New(api.ErrIO, "disk"), ""), api.ErrIO, "disk: code 8", "disk")
	expect(t, Wrap(New(api.ErrIO, ": "), ":\n\xff"), api.ErrIO, ":\n\xff: : : code 8", ":\n\xff", ": ")

	other := errors.New("other: code 5")
	expect(t, other, api.ErrInval, "code 1")
	expect(t, plain(""), api.ErrInval, "code 1")
	expect(t, Wrap(other, "a"), api.ErrInval, "a: code 1", "a")
	expect(t, around{in: other}, api.ErrInval, "code 1")
	expect(t, around{}, api.ErrInval, "code 1")
	expect(t, around{in: New(api.ErrIO, "disk")}, api.ErrIO, "disk: code 8", "disk")
	expect(t, fmt.Errorf("x: %w", Wrap(fmt.Errorf("y: %w", New(api.ErrIO, "disk")), "a")), api.ErrIO, "a: disk: code 8", "a", "disk")
}

// P3.1: the code is that of the first fault, also where those inside differ.
func TestFirstFaultHasTheCode(t *testing.T) {
	in := &Fault{Code: api.ErrHeld, Where: "in", Cause: around{in: New(api.ErrFull, "full")}}
	out := &Fault{Code: api.ErrLease, Where: "out", Cause: around{in: in}}
	expect(t, out, api.ErrLease, "out: in: full: code 14", "out", "in", "full")
	expect(t, around{in: out}, api.ErrLease, "out: in: full: code 14", "out", "in", "full")
	expect(t, &Fault{Where: "out", Cause: in}, api.OK, "out: in: full: code 0", "out", "in", "full")
	expect(t, &Fault{}, api.OK, "code 0")
}

// P3.1: a chain goes on with one error only, and other errors do not answer
// for it.
func TestWhatIsNoChain(t *testing.T) {
	expect(t, errors.Join(New(api.ErrIO, "disk"), New(api.ErrEnd, "end")), api.ErrInval, "code 1")
	expect(t, Wrap(errors.Join(New(api.ErrIO, "disk")), "a"), api.ErrInval, "a: code 1", "a")
	expect(t, liar{}, api.ErrInval, "code 1")
	expect(t, around{in: liar{}}, api.ErrInval, "code 1")
}

// P3.1: nil pointers and errors that panic are the end of a chain.
func TestBrokenChains(t *testing.T) {
	var none *Fault
	expect(t, none, api.ErrInval, "code 1")
	expect(t, Wrap(none, "a"), api.ErrInval, "a: code 1", "a")
	expect(t, around{in: none}, api.ErrInval, "code 1")
	if none.Unwrap() != nil || none.Is(Of(api.ErrInval)) || none.Is(&Fault{}) || none.Is(nil) {
		t.Error("a nil fault has a cause or a code")
	}
	var nobody *broken
	expect(t, nobody, api.ErrInval, "code 1")
	expect(t, Wrap(nobody, "a"), api.ErrInval, "a: code 1", "a")
	expect(t, &Fault{Code: api.ErrIO, Where: "a", Cause: nobody}, api.ErrIO, "a: code 8", "a")
}

// P3.1: every call ends, also where a chain leads back into itself.
func TestCirclesEnd(t *testing.T) {
	f := &Fault{Code: api.ErrIO, Where: "f"}
	f.Cause = f
	if l := Trail(f); Code(f) != api.ErrIO || len(l) < 2 || l[0] != "f" {
		t.Errorf("%d, %d places", Code(f), len(l))
	}
	if s := f.Error(); !strings.HasPrefix(s, "f: f: ") || !strings.HasSuffix(s, "f: code 8") {
		t.Errorf("%d bytes", len(s))
	}
	expect(t, &ring{}, api.ErrInval, "code 1")
	expect(t, Wrap(&ring{}, "a"), api.ErrInval, "a: code 1", "a")
}

// P3.1: chains as long as the document allows.
func TestLongChains(t *testing.T) {
	const long = 1 << 16
	inner := New(api.ErrSum, "first")
	err, foreign := inner, inner
	for range long - 1 {
		err = Wrap(err, "a")
		foreign = around{in: foreign}
	}
	if l := Trail(err); len(l) != long || l[0] != "a" || l[long-1] != "first" || Code(err) != api.ErrSum {
		t.Errorf("%d places, %d", len(l), Code(err))
	}
	if s := Text(err); s != strings.Repeat("a: ", long-1)+"first: code 5" {
		t.Errorf("%d bytes", len(s))
	}
	expect(t, foreign, api.ErrSum, "first: code 5", "first")
}

// P3.1: a trail is new memory each time.
func TestTrailIsNew(t *testing.T) {
	err := Wrap(New(api.ErrIO, "disk"), "node")
	l := Trail(err)
	l[0], l[1] = "x", "y"
	expect(t, err, api.ErrIO, "node: disk: code 8", "node", "disk")
}

// P3.1: Is is true for the bare code only, and asks nothing of the causes.
func TestIs(t *testing.T) {
	var none *Fault
	other := errors.New("other")
	f := &Fault{Code: api.ErrLease, Where: "here", Cause: Of(api.ErrIO)}
	for _, c := range []struct {
		target error
		want   bool
	}{
		{Of(api.ErrLease), true},
		{&Fault{Code: api.ErrLease}, true},
		{Of(api.ErrIO), false},
		{Of(api.ErrOwner), false},
		{&Fault{}, false},
		{New(api.ErrLease, "here"), false},
		{New(api.ErrLease, "there"), false},
		{&Fault{Code: api.ErrLease, Cause: other}, false},
		{Wrap(Of(api.ErrLease), ""), false},
		{f, false},
		{around{in: Of(api.ErrLease)}, false},
		{errors.Join(Of(api.ErrLease)), false},
		{other, false},
		{liar{}, false},
		{none, false},
		{nil, false},
	} {
		if got := f.Is(c.target); got != c.want {
			t.Errorf("Is(%v): %v", c.target, got)
		}
	}
	if !(&Fault{Where: "x"}).Is(&Fault{}) || !(&Fault{Code: -3}).Is(Of(-3)) {
		t.Error("Is knows some codes only")
	}
}

// chain returns a random chain, the codes of its faults and their places.
func chain(g *rand.Rand) (error, []*Fault) {
	var err error
	var l []*Fault
	for range g.Intn(8) {
		f := &Fault{Code: api.Errno(1 + g.Intn(22)), Where: []string{"", "a", "b"}[g.Intn(3)], Cause: err}
		switch g.Intn(5) {
		case 0:
			err = &around{in: err}
		case 1:
			if err == nil {
				err = errors.New("other")
			}
			err = fmt.Errorf("x: %w", err)
		case 2:
			if err != nil {
				f.Code = Code(err)
			}
			fallthrough
		default:
			err = f
			l = append([]*Fault{f}, l...)
		}
	}
	return err, l
}

// P3.1, P3.2: errors.Is finds exactly the codes of a chain, and errors.As its
// first fault.
func TestLibraryFindsCodes(t *testing.T) {
	g := rand.New(rand.NewSource(1))
	for range 5000 {
		err, l := chain(g)
		var codes []api.Errno
		var trail []string
		for _, f := range l {
			codes = append(codes, f.Code)
			if f.Where != "" {
				trail = append(trail, f.Where)
			}
		}
		for c := api.ErrInval; c <= api.ErrLate; c++ {
			if got := errors.Is(err, Of(c)); got != slices.Contains(codes, c) {
				t.Fatalf("%v: errors.Is of %d: %v", codes, c, got)
			}
		}
		var f *Fault
		found := errors.As(err, &f)
		if found != (len(l) > 0) || found && f != l[0] {
			t.Fatalf("%v: errors.As: %v, %v", codes, found, f)
		}
		code := api.OK
		if err != nil {
			code = api.ErrInval
		}
		if found {
			code = l[0].Code
		}
		if Code(err) != code || !slices.Equal(Trail(err), trail) {
			t.Fatalf("%v: %d, %q, not %q", codes, Code(err), Trail(err), trail)
		}
	}
}

// P3.3: Wrap keeps the code of any chain, and all that errors.Is finds in it.
func TestWrapKeepsTheCode(t *testing.T) {
	g := rand.New(rand.NewSource(2))
	for range 5000 {
		err, _ := chain(g)
		code, trail := Code(err), Trail(err)
		out := Wrap(Wrap(err, "in"), "out")
		if Code(out) != code {
			t.Fatalf("%v: %d, not %d", err, Code(out), code)
		}
		if err == nil {
			continue
		}
		if want := append([]string{"out", "in"}, trail...); !slices.Equal(Trail(out), want) {
			t.Fatalf("%q, not %q", Trail(out), want)
		}
		if !errors.Is(out, Of(code)) || Code(err) != code || !slices.Equal(Trail(err), trail) {
			t.Fatalf("Wrap has changed what it wraps: %v", err)
		}
	}
}

// P3.1: the marks of every code, and of numbers that are no code.
func TestMarks(t *testing.T) {
	if Moved != 1 || Wait != 2 || Retry != 4 || Final != 8 {
		t.Errorf("%d, %d, %d, %d", Moved, Wait, Retry, Final)
	}
	want := map[api.Errno]int{
		api.ErrOwner: Moved + Wait + Retry,
		api.ErrLease: Wait + Retry, api.ErrBusy: Wait + Retry,
		api.ErrDown: Retry, api.ErrIO: Retry, api.ErrLate: Retry,
		api.ErrCorrupt: Final, api.ErrExhausted: Final,
	}
	codes := []api.Errno{math.MinInt, math.MaxInt}
	for c := range 60 {
		codes = append(codes, api.Errno(c-30))
	}
	for _, c := range codes {
		if got := Marks(c); got != want[c] {
			t.Errorf("Marks(%d): %d, not %d", c, got, want[c])
		}
	}
}
