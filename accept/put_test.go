package accept

import (
	"math"
	"math/rand"
	"strings"
	"testing"

	"chatelaine/api"
	"chatelaine/code"
	"chatelaine/msg"
)

// put returns what Put appends.
func put(a *Acceptor) string {
	var w code.Writer
	a.Put(&w)
	return w.Text()
}

// get returns what Get reads from all of s.
func get(t *testing.T, s string, witness bool) *Acceptor {
	t.Helper()
	r := code.Read(s)
	a := Get(r, witness)
	if e := r.Done(); a == nil || e != api.OK {
		t.Fatalf("%x: %v, %d", s, a, e)
	}
	return a
}

// some returns acceptors with different states.
func some(t *testing.T, witness bool) []*Acceptor {
	t.Helper()
	one := New(witness)
	one.Accept(at(of(1, 300, 11), 2, "ab"))
	two := one.Clone()
	two.Accept(at(of(1, math.MaxUint64, 0), api.MaxSlot, strings.Repeat("\xff", api.MaxValue)))
	two.Ask(of(11, math.MaxUint64, 11), 1, api.MaxTime)
	three := full(t, witness, 7)
	three.Ask(of(0, 1, 1), 0, 0)
	four := two.Clone()
	four.Trim(api.MaxSlot)
	return []*Acceptor{New(witness), one, two, three, four}
}

// P16.3: the bytes of an acceptor, after what was appended before.
func TestPut(t *testing.T) {
	for _, witness := range both {
		text := "\x02ab"
		if witness {
			text = "\x08" + Digest("ab")
		}
		a := New(witness)
		if got := put(a); got != "\x00\x00\x00\x00\x00\x00" {
			t.Errorf("%x", got)
		}
		a.Accept(at(of(1, 300, 11), 2, "ab"))
		a.Prepare(of(4, 301, 4), 0)
		a.Ask(of(4, 301, 4), 0, 9)
		want := "\xfc\x01\x2d\x04" + "\x00\x01" + "\x02\xfc\x01\x2c\x0b" + text + "\x05\x09"
		if got := put(a); got != want {
			t.Errorf("%x, not %x", got, want)
		}
		var w code.Writer
		a.Put(w.U(7))
		a.Put(&w)
		if w.Text() != "\x07"+want+want {
			t.Errorf("%x", w.Text())
		}
		a.Trim(2)
		if got := put(a); got != "\xfc\x01\x2d\x04\x02\x00\x05\x09" {
			t.Errorf("%x", got)
		}
	}
}

// P16.3: Get returns what was put, and reads no more than that.
func TestGetReturnsWhatWasPut(t *testing.T) {
	for _, witness := range both {
		var w code.Writer
		l := some(t, witness)
		for _, a := range l {
			a.Put(&w)
		}
		r := code.Read(w.Text())
		for _, a := range l {
			got := Get(r, witness)
			if got == nil || r.Err() != api.OK {
				t.Fatalf("%v: %d", *a, r.Err())
			}
			same(t, got, a)
		}
		if e := r.Done(); e != api.OK {
			t.Errorf("at the end: %d", e)
		}
	}
}

// P16.3: an acceptor that was read goes on as the one that was put.
func TestGetGoesOn(t *testing.T) {
	is := replies(t)
	for _, witness := range both {
		for _, a := range some(t, witness) {
			b := get(t, put(a), witness)
			for _, m := range []msg.Msg{at(of(2, 300, 10), 2, "ab"), at(of(2, 300, 11), 2, "ab"), at(of(2, 400, 2), 3, "new")} {
				is(b.Prepare(m, 5))(a.Prepare(m, 5))
				is(b.Accept(m))(a.Accept(m))
				is(b.Ask(m, 5, 9))(a.Ask(m, 5, 9))
				same(t, a, b)
			}
		}
	}
}

// fails fails unless Get of s returns the error e, and again afterwards.
func fails(t *testing.T, s string, witness bool, e api.Errno) {
	t.Helper()
	r := code.Read(s)
	for range 2 {
		if a := Get(r, witness); a != nil || r.Err() != e {
			t.Errorf("%.40x of %d bytes: %v, %d, not %d", s, len(s), a, r.Err(), e)
		}
	}
}

// P16.3: with bytes missing, there is nothing.
func TestGetOfLess(t *testing.T) {
	for _, witness := range both {
		for _, a := range some(t, witness) {
			s := put(a)
			for n := range s {
				fails(t, s[:n], witness, api.ErrEnd)
			}
		}
	}
}

// P16.3: each limit, and slots above the base in ascending order.
func TestErrorsOfGet(t *testing.T) {
	one := func(base, slot int) *code.Writer {
		var w code.Writer
		return w.U(1).N(0, base, 1, slot).U(1).N(0)
	}
	two := func(base, first, second int) *code.Writer {
		var w code.Writer
		w.U(1).N(0, base, 2, first).U(1).N(0).S("a")
		return w.N(second).U(1).N(0).S("b").N(0, 0)
	}
	for _, c := range []struct {
		w    *code.Writer
		want api.Errno
	}{
		{new(code.Writer).U(0).N(1, 0, 0, 0, 0), api.ErrForm},
		{new(code.Writer).U(1).N(api.MaxNodes, 0, 0, 0, 0), api.ErrBig},
		{new(code.Writer).U(1).N(1, api.MaxSlot+1, 0, 0, 0), api.ErrBig},
		{new(code.Writer).U(1).N(1, 0, msg.MaxList+1), api.ErrBig},
		{one(0, api.MaxSlot+1).S("").N(0, 0), api.ErrBig},
		{one(0, 0).S("").N(0, 0), api.ErrForm},
		{one(7, 7).S("").N(0, 0), api.ErrForm},
		{one(7, 6).S("").N(0, 0), api.ErrForm},
		{one(api.MaxSlot, api.MaxSlot).S("").N(0, 0), api.ErrForm},
		{two(0, 3, 3), api.ErrForm},
		{two(0, 3, 2), api.ErrForm},
		{two(3, 4, 3), api.ErrForm},
		{two(3, 3, 4), api.ErrForm},
		{new(code.Writer).U(1).N(0, 0, 1, 1).U(0).N(1).S("").N(0, 0), api.ErrForm},
		{new(code.Writer).U(1).N(0, 0, 1, 1).U(1).N(api.MaxNodes).S("").N(0, 0), api.ErrBig},
		{one(0, 1).S(strings.Repeat("x", 401)).N(0, 0), api.ErrBig},
		{new(code.Writer).U(1).N(1, 0, 0, api.MaxNodes+1, 0), api.ErrBig},
		{new(code.Writer).U(1).N(1, 0, 0, 1, api.MaxTime+1), api.ErrBig},
		{new(code.Writer).U(1).N(1, 0, 0, 0, 1), api.ErrForm},
	} {
		for _, witness := range both {
			fails(t, c.w.Text(), witness, c.want)
		}
	}
}

// P16.3: what is just within the limits is read.
func TestLimitsOfGet(t *testing.T) {
	var w code.Writer
	last := api.MaxSlot - msg.MaxList
	w.U(math.MaxUint64).N(11, last, msg.MaxList)
	for i := range msg.MaxList {
		w.N(last + 1 + i).U(0).N(0).S(strings.Repeat("x", 8))
	}
	s := w.N(api.MaxNodes, api.MaxTime).Text()
	for _, witness := range both {
		a := get(t, s, witness)
		if put(a) != s || a.Witness() != witness {
			t.Errorf("%v", *a)
		}
		holds(t, a, api.MaxNodes-1, api.MaxTime)
	}
	var zero code.Writer
	holds(t, get(t, zero.U(0).N(0, 0, 0, 1, 0).Text(), true), 0, 0)
}

// P16.3: a text has at most 400 bytes, or 8 for a witness.
func TestLongTexts(t *testing.T) {
	for n := range 410 {
		var w code.Writer
		s := w.U(1).N(0, 0, 1, 1).U(1).N(0).S(strings.Repeat("x", n)).N(0, 0).Text()
		for _, witness := range both {
			if n > 400 || witness && n > 8 {
				fails(t, s, witness, api.ErrBig)
			} else if got := put(get(t, s, witness)); got != s {
				t.Errorf("%d bytes: %x", n, got)
			}
		}
	}
}

// P16.3: an error that the reader has already is kept.
func TestGetAfterAnError(t *testing.T) {
	for _, s := range []string{"", put(New(false)), put(some(t, false)[2])} {
		r := code.Read(s)
		r.Fail(api.ErrSum)
		if a := Get(r, false); a != nil || r.Err() != api.ErrSum {
			t.Errorf("%x: %v, %d", s, a, r.Err())
		}
	}
}

// P16.3: altered bytes are an error, or those of the acceptor that is read.
func TestPutAppendsWhatWasRead(t *testing.T) {
	g := rand.New(rand.NewSource(1))
	found := 0
	for range 50000 {
		witness := g.Intn(2) == 0
		var w code.Writer
		w.U(uint64(g.Intn(2))).N(g.Intn(2), g.Intn(3), 2)
		for slot := range 2 {
			w.N(slot + g.Intn(4)).U(uint64(g.Intn(2))).N(g.Intn(2)).S(strings.Repeat("x", g.Intn(9)))
		}
		s := []byte(w.N(g.Intn(2), g.Intn(2), 5).Text())
		s[g.Intn(len(s))] += byte(g.Intn(2))
		r := code.Read(string(s))
		a := Get(r, witness)
		if a == nil != (r.Err() != api.OK) {
			t.Fatalf("%x: %v, %d", s, a, r.Err())
		}
		if a == nil {
			continue
		}
		found++
		if got := put(a); got != string(s[:len(s)-r.Left()]) {
			t.Fatalf("%x: %v is %x", s, *a, got)
		}
	}
	if found < 1000 {
		t.Errorf("only %d acceptors", found)
	}
}
