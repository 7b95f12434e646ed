package table

import (
	"math"
	"math/rand"
	"strings"
	"testing"

	"chatelaine/api"
	"chatelaine/code"
	"chatelaine/path"
)

// at returns the path with that text.
func at(t *testing.T, s string) path.Path {
	t.Helper()
	p, err := path.Parse(s)
	if err != nil {
		t.Fatalf("%q: %v", s, err)
	}
	return p
}

// longPath is the text of the longest path.
var longPath = strings.Repeat("/abcdefgh-_012345", api.MaxDepth)

// bytesOf returns the bytes of a command, which need not be one.
func bytesOf(kind, client, seq, session int, p string, excl, wait bool, count int) string {
	var w code.Writer
	return w.N(kind, client, seq, session).S(p).B(excl, wait).N(count).Text()
}

// The numbers of the kinds.
func TestKinds(t *testing.T) {
	for i, kind := range []int{Open, Close, Keep, Acquire, Release, Watch, Drain, Expire} {
		if kind != i+1 {
			t.Errorf("%d is not %d", kind, i+1)
		}
	}
	if Granted != 1 || Released != 2 || MaxClient != 64 {
		t.Errorf("%d, %d, %d", Granted, Released, MaxClient)
	}
}

// P23.1: the bytes of a command; a negative number counts as 0.
func TestText(t *testing.T) {
	c := Cmd{Acquire, 2, 300, 7, at(t, "/a/b"), true, false, 5}
	for _, x := range []struct {
		c    Cmd
		want string
	}{
		{Cmd{}, "\x00\x00\x00\x00\x01/\x00\x00\x00"},
		{c, "\x04\x02\xfc\x01\x2c\x07\x04/a/b\x01\x00\x05"},
		{Cmd{Wait: true}, "\x00\x00\x00\x00\x01/\x00\x01\x00"},
		{Cmd{-1, math.MinInt, -300, -7, path.Path{}, false, false, -5}, Cmd{}.Text()},
		{Cmd{Kind: math.MaxInt}, "\xfe\x7f\xff\xff\xff\xff\xff\xff\xff\x00\x00\x00\x01/\x00\x00\x00"},
	} {
		if got := x.c.Text(); got != x.want {
			t.Errorf("%v: %x, not %x", x.c, got, x.want)
		}
	}
}

// P23.1: each command is parsed from its bytes.
func TestParse(t *testing.T) {
	for _, c := range []Cmd{
		{Open, 1, 1, 0, path.Path{}, false, false, 0},
		{Close, MaxClient, most, most, at(t, longPath), true, true, most},
		{Keep, 2, 3, 4, at(t, "/a"), true, false, 5},
		{Acquire, 6, 7, 8, at(t, "/a/b"), false, true, 9},
		{Release, 10, 11, 12, at(t, "/c"), true, true, 0},
		{Watch, 13, 14, 0, at(t, "/d"), false, false, 0},
		{Drain, 1, 252, 65536, path.Path{}, false, false, 0},
		{Expire, 0, 0, 0, path.Path{}, false, false, 0},
		{Expire, 0, 0, most, at(t, "/a"), true, true, most},
	} {
		if got, e := Parse(c.Text()); got != c || e != api.OK {
			t.Errorf("%v, not %v: %d", got, c, e)
		}
	}
}

// P23.1: which bytes are not a command, and with which error.
func TestParseErrors(t *testing.T) {
	for _, x := range []struct {
		s    string
		want api.Errno
	}{
		{bytesOf(9, 1, 1, 1, "/", false, false, 0), api.ErrBig},
		{bytesOf(1, 65, 1, 1, "/", false, false, 0), api.ErrBig},
		{bytesOf(1, 1, most+1, 1, "/", false, false, 0), api.ErrBig},
		{bytesOf(1, 1, 1, most+1, "/", false, false, 0), api.ErrBig},
		{bytesOf(1, 1, 1, 1, "/", false, false, most+1), api.ErrBig},
		{bytesOf(1, 1, 1, 1, strings.Repeat("x", 121), false, false, 0), api.ErrBig},
		{bytesOf(1, 1, 1, 1, strings.Repeat("x", 120), false, false, 0), api.ErrForm},
		{bytesOf(0, 1, 1, 1, "/", false, false, 0), api.ErrForm},
		{bytesOf(1, 1, 1, 1, "", false, false, 0), api.ErrForm},
		{bytesOf(1, 1, 1, 1, "a", false, false, 0), api.ErrForm},
		{bytesOf(1, 1, 1, 1, "/A", false, false, 0), api.ErrForm},
		{bytesOf(1, 1, 1, 1, "/a/", false, false, 0), api.ErrForm},
		{bytesOf(1, 1, 1, 1, longPath+"/a", false, false, 0), api.ErrForm},
		{bytesOf(1, 1, 1, 1, "/", false, false, 0) + "\x00", api.ErrForm},
		{"\x01\x01\x01\x01\x01/\x02\x00\x00", api.ErrForm},
		{"\x01\x01\x01\x01\x01/\x00\xff\x00", api.ErrForm},
		{"\xff\x01\x01\x01\x01/\x00\x00\x00", api.ErrForm},
		{"\x01\xfc\x00\x01\x01\x01\x01/\x00\x00\x00", api.ErrForm},
		{"", api.ErrEnd},
	} {
		if c, e := Parse(x.s); c != (Cmd{}) || e != x.want {
			t.Errorf("%x: %v, %d, not %d", x.s, c, e, x.want)
		}
	}
}

// P23.1: each kind has a client and a number, but an Expire has neither.
func TestParseRange(t *testing.T) {
	for kind := Open; kind <= Expire; kind++ {
		for _, client := range []int{0, 1, MaxClient} {
			for _, seq := range []int{0, 1, most} {
				want := api.ErrRange
				if expires := kind == Expire; (client == 0) == expires && (seq == 0) == expires {
					want = api.OK
				}
				c := Cmd{Kind: kind, Client: client, Seq: seq}
				if want == api.OK {
					if got, e := Parse(c.Text()); got != c || e != api.OK {
						t.Errorf("%v: %v, %d", c, got, e)
					}
				} else if got, e := Parse(c.Text()); got != (Cmd{}) || e != want {
					t.Errorf("%v: %v, %d", c, got, e)
				}
			}
		}
	}
}

// P23.1: the errors of the reader come first, and ErrRange last.
func TestParseOrder(t *testing.T) {
	for _, x := range []struct {
		s    string
		want api.Errno
	}{
		{bytesOf(0, 1, 1, 1, "/", false, false, most+1), api.ErrBig},
		{bytesOf(1, 0, 1, 1, "a", false, false, most+1), api.ErrBig},
		{bytesOf(1, 1, 1, 1, "a", false, false, most+1) + "x", api.ErrBig},
		{bytesOf(9, 1, 1, 1, "/", false, false, 0)[:8], api.ErrBig},
		{bytesOf(0, 0, 0, 1, "a", false, false, 0)[:8], api.ErrEnd},
		{bytesOf(0, 0, 1, 1, "/", false, false, 0), api.ErrForm},
		{bytesOf(1, 0, 0, 1, "a", false, false, 0), api.ErrForm},
		{bytesOf(1, 0, 0, 1, "/", false, false, 0) + "x", api.ErrForm},
		{bytesOf(8, 1, 1, 1, "/", false, false, 0) + "x", api.ErrForm},
		{bytesOf(1, 0, 0, 1, "/", false, false, 0), api.ErrRange},
	} {
		if c, e := Parse(x.s); c != (Cmd{}) || e != x.want {
			t.Errorf("%x: %v, %d, not %d", x.s, c, e, x.want)
		}
	}
}

// P23.1: with bytes missing, there is no command.
func TestParseOfLess(t *testing.T) {
	s := Cmd{Acquire, 2, 300, 70000, at(t, "/a/b"), true, false, 1 << 33}.Text()
	for n := range s {
		if c, e := Parse(s[:n]); c != (Cmd{}) || e != api.ErrEnd {
			t.Errorf("%d bytes: %v, %d", n, c, e)
		}
	}
}

// P23.1: any bytes are exactly one command, or none.
func TestParseAny(t *testing.T) {
	g := rand.New(rand.NewSource(1))
	found := 0
	for range 100000 {
		c := Cmd{g.Intn(10), g.Intn(3), g.Intn(3), g.Intn(300), at(t, []string{"/", "/a", "/b/c"}[g.Intn(3)]), g.Intn(2) == 0, g.Intn(2) == 0, g.Intn(300)}
		s := []byte(c.Text())
		for range g.Intn(3) {
			s[g.Intn(len(s))] = byte(g.Intn(256))
		}
		c, e := Parse(string(s))
		switch {
		case e != api.OK && c != (Cmd{}):
			t.Fatalf("%x: %v, %d", s, c, e)
		case e == api.OK && c.Text() != string(s):
			t.Fatalf("%x: %v is %x", s, c, c.Text())
		case e == api.OK:
			found++
		}
	}
	if found < 10000 {
		t.Errorf("only %d commands", found)
	}
}
