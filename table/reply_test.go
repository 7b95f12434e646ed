package table

import (
	"math"
	"math/rand"
	"reflect"
	"strings"
	"testing"

	"chatelaine/api"
	"chatelaine/code"
	"chatelaine/path"
)

// equal reports whether two replies are equal, without Same.
func equal(a, b Reply) bool {
	if len(a.Events) == 0 && len(b.Events) == 0 {
		a.Events, b.Events = nil, nil
	}
	return reflect.DeepEqual(a, b)
}

// replyText returns what Put appends.
func replyText(x Reply) string {
	var w code.Writer
	x.Put(&w)
	return w.Text()
}

// full returns a reply in which no field is zero.
func full(t *testing.T) Reply {
	t.Helper()
	return Reply{
		Err: 15, Session: 300, Token: 1 << 33, Place: 3, Count: 4, Lost: true,
		Events: []Event{{Granted, at(t, "/a/b"), 5, 6}, {Released, path.Path{}, 7, 70000}},
	}
}

// P23.1: the bytes of a reply, after what was appended before.
func TestReplyPut(t *testing.T) {
	if got := replyText(Reply{}); got != "\x00\x00\x00\x00\x00\x00\x00" {
		t.Errorf("%x", got)
	}
	want := "\x0f\xfc\x01\x2c\xfe\x00\x00\x00\x02\x00\x00\x00\x00\x03\x04" +
		"\x02\x01\x04/a/b\x05\x06\x02\x01/\x07\xfd\x00\x01\x11\x70\x01"
	var w code.Writer
	full(t).Put(w.U(9))
	full(t).Put(&w)
	if got := w.Text(); got != "\x09"+want+want {
		t.Errorf("%x, not %x", got, want)
	}
}

// P23.1: the reply that is read is the one that was put, and no more is read.
func TestGetReply(t *testing.T) {
	greatest := Reply{Err: 22, Session: most, Token: math.MaxUint64, Place: 8, Count: most, Lost: true}
	for range 8 {
		greatest.Events = append(greatest.Events, Event{Released, at(t, longPath), most, math.MaxUint64})
	}
	zeroes := Reply{Events: []Event{{Kind: Granted}}}
	l := []Reply{{}, full(t), greatest, zeroes, {Lost: true}, {Err: 1, Session: 1}}
	var w code.Writer
	for _, x := range l {
		x.Put(&w)
	}
	r := code.Read(w.Text())
	for _, x := range l {
		if got := GetReply(r); !equal(got, x) || r.Err() != api.OK {
			t.Errorf("%v is not %v: %d", got, x, r.Err())
		}
	}
	if e := r.Done(); e != api.OK {
		t.Errorf("at the end: %d", e)
	}
}

// failsReply fails unless GetReply of s returns the error e, and again afterwards.
func failsReply(t *testing.T, s string, e api.Errno) {
	t.Helper()
	r := code.Read(s)
	for range 2 {
		if x := GetReply(r); !equal(x, Reply{}) || r.Err() != e {
			t.Errorf("%x: %v, %d, not %d", s, x, r.Err(), e)
		}
	}
}

// P23.1: each limit of a reply, its paths and its kinds of events.
func TestGetReplyErrors(t *testing.T) {
	head := func(l ...int) *code.Writer { return new(code.Writer).N(l...) }
	event := func(kind int, p string) string {
		return head(0, 0, 0, 0, 0, 1, kind).S(p).N(0, 0).B(false).Text()
	}
	for _, x := range []struct {
		s    string
		want api.Errno
	}{
		{head(23, 0, 0, 0, 0, 0, 0).Text(), api.ErrBig},
		{head(0, most+1, 0, 0, 0, 0, 0).Text(), api.ErrBig},
		{head(0, 0, 0, 9, 0, 0, 0).Text(), api.ErrBig},
		{head(0, 0, 0, 0, most+1, 0, 0).Text(), api.ErrBig},
		{head(0, 0, 0, 0, 0, 9).Text(), api.ErrBig},
		{event(3, "/"), api.ErrBig},
		{event(0, "/"), api.ErrForm},
		{event(1, ""), api.ErrForm},
		{event(2, "/a//b"), api.ErrForm},
		{event(1, strings.Repeat("x", 120)), api.ErrForm},
		{event(1, strings.Repeat("x", 121)), api.ErrBig},
		{head(0, 0, 0, 0, 0, 1, 1).S("/").N(most+1, 0, 0).Text(), api.ErrBig},
		{head(0, 0, 0, 0, 0, 0, 2).Text(), api.ErrForm},
		{head(255).Text(), api.ErrBig},
		{"\xff", api.ErrForm},
	} {
		failsReply(t, x.s, x.want)
	}
}

// P23.1: with bytes missing there is no reply, and an error that the reader has
// already is kept.
func TestGetReplyOfLess(t *testing.T) {
	for _, x := range []Reply{{}, full(t)} {
		s := replyText(x)
		for n := range s {
			failsReply(t, s[:n], api.ErrEnd)
		}
		r := code.Read(s)
		r.Fail(api.ErrSum)
		if got := GetReply(r); !equal(got, Reply{}) || r.Err() != api.ErrSum {
			t.Errorf("%v, %d", got, r.Err())
		}
	}
}

// P23.1: any bytes are exactly one reply, or none.
func TestGetReplyAny(t *testing.T) {
	g := rand.New(rand.NewSource(1))
	found := 0
	for range 100000 {
		s := []byte(replyText(full(t)))
		for range 1 + g.Intn(2) {
			s[g.Intn(len(s))] = byte(g.Intn(256))
		}
		r := code.Read(string(s))
		x := GetReply(r)
		switch {
		case r.Err() != api.OK && !equal(x, Reply{}):
			t.Fatalf("%x: %v, %d", s, x, r.Err())
		case r.Err() == api.OK && replyText(x) != string(s[:len(s)-r.Left()]):
			t.Fatalf("%x: %v is %x", s, x, replyText(x))
		case r.Err() == api.OK:
			found++
		}
	}
	if found < 10000 {
		t.Errorf("only %d replies", found)
	}
}

// P23.1: replies that differ in one field are not equal; nil and empty are.
func TestSame(t *testing.T) {
	changes := []func(x *Reply){
		func(x *Reply) { x.Err++ },
		func(x *Reply) { x.Session++ },
		func(x *Reply) { x.Token++ },
		func(x *Reply) { x.Place++ },
		func(x *Reply) { x.Count++ },
		func(x *Reply) { x.Lost = !x.Lost },
		func(x *Reply) { x.Events = x.Events[:1] },
		func(x *Reply) { x.Events = nil },
		func(x *Reply) { x.Events = append(x.Events, Event{}) },
		func(x *Reply) { x.Events[0], x.Events[1] = x.Events[1], x.Events[0] },
		func(x *Reply) { x.Events[0].Kind++ },
		func(x *Reply) { x.Events[1].Path = at(t, "/x") },
		func(x *Reply) { x.Events[0].Session++ },
		func(x *Reply) { x.Events[1].Token++ },
	}
	for i, change := range changes {
		a, b := full(t), full(t)
		if !Same(a, b) || !Same(b, a) {
			t.Errorf("%v is not %v", a, b)
		}
		change(&b)
		if Same(a, b) || Same(b, a) {
			t.Errorf("%d: %v is %v", i, a, b)
		}
		change(&a)
		if !Same(a, b) {
			t.Errorf("%d: %v is not %v", i, a, b)
		}
	}
	if !Same(Reply{}, Reply{Events: []Event{}}) {
		t.Errorf("nil is not empty")
	}
}

// Rule 1: any numbers are accepted; negative ones count as 0.
func TestReplyOfAnyNumbers(t *testing.T) {
	x := Reply{Err: -1, Session: -2, Place: math.MinInt, Count: -3, Events: []Event{{Kind: -1, Session: -4}}}
	if got := replyText(x); got != "\x00\x00\x00\x00\x00\x01\x00\x01/\x00\x00\x00" {
		t.Errorf("%x", got)
	}
	x = Reply{Err: math.MaxInt, Events: make([]Event, 20)}
	if got := replyText(x); len(got) != 9+5+20*5+1 {
		t.Errorf("%d bytes", len(got))
	}
}
