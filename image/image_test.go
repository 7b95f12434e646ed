package image

import (
	"math"
	"math/rand"
	"strings"
	"testing"

	"chatelaine/accept"
	"chatelaine/api"
	"chatelaine/code"
	"chatelaine/path"
	"chatelaine/seal"
	"chatelaine/table"
)

// at returns the path with that text.
func at(t *testing.T, s string) path.Path {
	t.Helper()
	p, err := path.Parse(s)
	if err != nil {
		t.Fatalf("%q: %v", s, err)
	}
	return p
}

// put returns the Put of a table, after a slot.
func put(x *table.Table, slot int) string {
	var w code.Writer
	x.Put(w.N(slot))
	return w.Text()
}

// same fails unless the table is another one.
func same(t *testing.T, x, want *table.Table) {
	t.Helper()
	if x == nil || x == want || put(x, 0) != put(want, 0) {
		t.Fatalf("%v, not %v", x, want)
	}
}

// does applies the client's next command, and returns the reply.
func does(x *table.Table, c table.Cmd) table.Reply {
	n, _ := x.Told(c.Client)
	c.Seq = n + 1
	return x.Apply(c.Text())
}

// some returns a table with sessions, locks, requests and events.
func some(t *testing.T) *table.Table {
	t.Helper()
	x := table.New(at(t, "/a"), 300)
	for client := range 3 {
		does(x, table.Cmd{Kind: table.Open, Client: client + 1})
		for _, p := range []string{"/a", "/a/b", "/a/b/c"} {
			does(x, table.Cmd{Kind: table.Watch, Client: client + 1, Session: client + 1, Path: at(t, p)})
		}
		does(x, table.Cmd{Kind: table.Acquire, Client: client + 1, Session: client + 1, Path: at(t, "/a/b"), Excl: true, Wait: true})
		does(x, table.Cmd{Kind: table.Acquire, Client: client + 1, Session: client + 1, Path: at(t, "/a/c")})
	}
	does(x, table.Cmd{Kind: table.Release, Client: 1, Session: 1, Path: at(t, "/a/b")})
	does(x, table.Cmd{Kind: table.Drain, Client: 1, Session: 1})
	does(x, table.Cmd{Kind: table.Keep, Client: 2, Session: 1})
	return x
}

// tables returns some tables.
func tables(t *testing.T) []*table.Table {
	t.Helper()
	return []*table.Table{
		table.New(path.Path{}, 0), table.New(at(t, "/a/b"), math.MaxUint64), some(t), greatest(t),
	}
}

// P24.1: the example of the chapter.
func TestExample(t *testing.T) {
	got := Write(table.New(path.Path{}, 0), 0)
	want := "\x02\x00\x00\x09\x00\x01/\x00\x00\x00\x00\x00\x00"
	if len(got) != len(want)+4 || got[:len(want)] != want {
		t.Errorf("%x, not %x", got, want)
	}
}

// P24.1: an image is a frame of the kind 2 with the slot and the table.
func TestWrite(t *testing.T) {
	for _, x := range tables(t) {
		for _, slot := range []int{0, 1, 300, api.MaxSlot} {
			if got, want := Write(x, slot), seal.Frame(2, put(x, slot)); got != want {
				t.Errorf("%x, not %x", got, want)
			}
		}
	}
}

// P24.1: Read returns what was written, also when it goes on.
func TestRead(t *testing.T) {
	for _, x := range tables(t) {
		for _, slot := range []int{0, 1, 300, api.MaxSlot} {
			s := Write(x, slot)
			y, n, e := Read(s)
			if n != slot || e != api.OK {
				t.Fatalf("%x: %d, %d", s, n, e)
			}
			same(t, y, x)
			if got := Write(y, n); got != s {
				t.Errorf("%x, not %x", got, s)
			}
			z, _, _ := Read(s)
			does(y, table.Cmd{Kind: table.Open, Client: 9})
			same(t, z, x) // the other one has not changed
			does(z, table.Cmd{Kind: table.Open, Client: 9})
			same(t, z, y)
		}
	}
}

// fails fails unless Read of s returns the error e.
func fails(t *testing.T, s string, e api.Errno) {
	t.Helper()
	if x, n, got := Read(s); x != nil || n != 0 || got != e {
		t.Errorf("%x: %v, %d, %d, not %d", s, x, n, got, e)
	}
}

// P24.1: each error, and their order.
func TestReadErrors(t *testing.T) {
	x := some(t)
	good, in := Write(x, 7), put(x, 7)
	frame := func(in string) string { return seal.Frame(2, in) }
	for _, c := range []struct {
		s    string
		want api.Errno
	}{
		{"", api.ErrEnd},
		{good[:3], api.ErrEnd},
		{good[:len(good)-1], api.ErrEnd},
		{"\x00\x00\x00\x00", api.ErrForm},
		{"\x02\x10\x00\x01", api.ErrBig},
		{good[:len(good)-1] + string(good[len(good)-1]^1), api.ErrSum},
		{"\x01" + good[1:], api.ErrSum},
		{good[:len(good)-1] + string(good[len(good)-1]^1) + "x", api.ErrSum},
		{seal.Frame(1, in), api.ErrForm},
		{seal.Frame(3, in), api.ErrForm},
		{seal.Frame(255, ""), api.ErrForm},
		{seal.Frame(1, put(x, api.MaxSlot+1)), api.ErrForm},
		{good + "x", api.ErrForm},
		{good + good, api.ErrForm},
		{frame("") + "x", api.ErrForm},
		{frame(put(x, api.MaxSlot+1)) + "x", api.ErrForm},
		{frame(""), api.ErrEnd},
		{frame("\x00"), api.ErrEnd},
		{frame("\xff"), api.ErrForm},
		{frame(put(x, api.MaxSlot+1)), api.ErrBig},
		{frame(put(x, api.MaxSlot+1) + "x"), api.ErrBig},
		{frame(put(x, math.MaxInt)), api.ErrBig},
		{frame("\x00\x02ab\x00\x00\x00\x00\x00\x00"), api.ErrForm},
		{frame("\x00\x01/\x00\x00\x09\x00\x00\x00"), api.ErrBig},
		{frame("\x00\x01/\x00\x00\x00\x00\x00\x00x"), api.ErrForm},
		{frame(in + "\x00"), api.ErrForm},
		{frame(in + in), api.ErrForm},
	} {
		fails(t, c.s, c.want)
	}
	for n := range in {
		fails(t, frame(in[:n]), api.ErrEnd)
	}
	for n := range good {
		fails(t, good[:n], api.ErrEnd)
	}
}

// P24.1: any bytes are exactly one image, or an error; here, ones with a right
// checksum.
func TestReadAny(t *testing.T) {
	found := 0
	x := some(t)
	in := put(x, 7)
	for i := range in {
		for by := 1; by < 256; by++ {
			b := []byte(in)
			b[i] ^= byte(by)
			s := seal.Frame(2, string(b))
			y, slot, e := Read(s)
			switch {
			case e != api.OK:
				fails(t, s, e)
			case Write(y, slot) != s:
				t.Fatalf("%x: %x", s, Write(y, slot))
			default:
				found++
			}
		}
	}
	if found < 100 {
		t.Errorf("only %d images", found)
	}
}

// P24.2: up to four consecutive bytes are altered, all in the content.
func TestAlteredContent(t *testing.T) {
	altered(t, func(s string) (int, int) { return 4, len(s) - 4 })
}

// P24.2: up to four consecutive bytes are altered, all in the checksum.
func TestAlteredSum(t *testing.T) {
	altered(t, func(s string) (int, int) { return len(s) - 4, len(s) })
}

// altered fails if an image of which bytes within these bounds are altered is
// read without an error.
func altered(t *testing.T, within func(s string) (first, end int)) {
	g := rand.New(rand.NewSource(1))
	for _, x := range []*table.Table{table.New(path.Path{}, 0), some(t)} {
		s := Write(x, 7)
		first, end := within(s)
		for i := first; i < end; i++ {
			for n := 1; n <= min(4, end-i); n++ {
				for range 40 {
					b := []byte(s)
					for j := range n {
						b[i+j] = byte(g.Intn(256))
					}
					if string(b) != s {
						fails(t, string(b), api.ErrSum)
					}
				}
			}
			for by := 1; by < 256; by++ {
				fails(t, s[:i]+string([]byte{s[i] ^ byte(by)})+s[i+1:], api.ErrSum)
			}
		}
	}
}

// long returns the text of the i-th of different paths of the greatest length.
func long(i int) string {
	part := strings.Repeat("x", api.MaxPart-1)
	return strings.Repeat("/"+part+"y", api.MaxDepth-1) + "/" + part + string([]byte{'a' + byte(i)})
}

// putEvents appends eight events.
func putEvents(w *code.Writer) *code.Writer {
	w.N(api.MaxEvents)
	for i := range api.MaxEvents {
		w.N(table.Released).S(long(i)).N(api.MaxSlot).U(math.MaxUint64)
	}
	return w
}

// greatest returns a table that has as much of everything as Get permits, with
// great numbers.
func greatest(t *testing.T) *table.Table {
	t.Helper()
	w := new(code.Writer).S("/").U(math.MaxUint64).N(api.MaxSlot, api.MaxSessions)
	first := api.MaxSlot - api.MaxSessions + 1
	for n := range api.MaxSessions {
		w.N(first+n, table.MaxClient, api.MaxSlot, api.MaxHeld)
		for i := range api.MaxHeld {
			w.S(long(i))
		}
		putEvents(w).B(true)
	}
	// Each session waits for the only path that it does not hold.
	w.N(api.MaxSessions * (api.MaxHeld - 1))
	for i := range api.MaxHeld {
		for n := range api.MaxSessions {
			if n != i {
				w.N(first + n).S(long(i)).B(false).U(math.MaxUint64 - uint64(100*i+n))
			}
		}
	}
	w.N(api.MaxSessions)
	for n := range api.MaxSessions {
		w.N(first + n).S(long(n)).B(true)
	}
	w.N(table.MaxClient)
	for client := range table.MaxClient {
		w.N(client+1, api.MaxSlot, 0, api.MaxSlot).U(math.MaxUint64).N(api.MaxWait, api.MaxSlot)
		putEvents(w).B(true)
	}
	r := code.Read(w.Text())
	x := table.Get(r)
	if e := r.Done(); e != api.OK {
		t.Fatalf("Get: %d", e)
	}
	return x
}

// P24.3: the greatest image.
func TestGreatest(t *testing.T) {
	x := greatest(t)
	if n := len(Write(x, api.MaxSlot)); n > api.MaxImage || n < api.MaxImage/2 {
		t.Errorf("%d bytes", n)
	}
}

// random returns the text of a command.
func random(g *rand.Rand) string {
	c := table.Cmd{Kind: 1 + g.Intn(8), Client: 1 + g.Intn(5), Session: 1 + g.Intn(20), Excl: g.Intn(2) == 0, Wait: true}
	c.Path, _ = path.Parse([]string{"/", "/a", "/a/b", "/b"}[g.Intn(4)])
	c.Seq = 1 + g.Intn(1000)
	if c.Kind == table.Expire {
		c.Client, c.Seq = 0, 0
	}
	return c.Text()
}

// P24.3: tables with the same history have the same image, however often they
// were written and read.
func TestSameHistory(t *testing.T) {
	g := rand.New(rand.NewSource(1))
	for range 100 {
		x, y := table.New(path.Path{}, 5), table.New(path.Path{}, 5)
		for slot := range 100 {
			s := random(g)
			x.Apply(s)
			y.Apply(s)
			a, b := Write(x, slot), Write(y, slot)
			if a != b || Sum(x) != Sum(y) || len(a) > api.MaxImage {
				t.Fatalf("%x, not %x", a, b)
			}
			switch g.Intn(5) {
			case 0:
				y, _, _ = Read(a)
			case 1:
				y = x.Clone()
			}
		}
	}
}

// P24.3: tables with other histories have other images and sums.
func TestOtherHistory(t *testing.T) {
	x := some(t)
	for _, c := range []table.Cmd{
		{Kind: table.Open, Client: 4}, {Kind: table.Keep, Client: 2, Session: 2}, {Kind: table.Drain, Client: 1, Session: 9},
		{Kind: table.Close, Client: 3, Session: 3}, {Kind: table.Watch, Client: 1, Session: 1, Path: at(t, "/a/c")},
	} {
		y := x.Clone()
		does(y, c)
		if Write(x, 1) == Write(y, 1) || Sum(x) == Sum(y) {
			t.Errorf("%v: %x", c, Write(y, 1))
		}
	}
	if Write(x, 1) == Write(x, 2) {
		t.Errorf("%x", Write(x, 1))
	}
}

// P24.1: the sum is the digest of the bytes of the table, without a slot.
func TestSum(t *testing.T) {
	for _, x := range tables(t) {
		var w code.Writer
		x.Put(&w)
		if got, want := Sum(x), accept.Digest(w.Text()); got != want || len(got) != 8 {
			t.Errorf("%x, not %x", got, want)
		}
	}
	if got, want := Sum(table.New(path.Path{}, 0)), accept.Digest("\x01/\x00\x00\x00\x00\x00\x00"); got != want {
		t.Errorf("%x, not %x", got, want)
	}
}

// Rule 5: Write and Sum do not change the table.
func TestUnchanged(t *testing.T) {
	for _, x := range tables(t) {
		before := put(x, 0)
		Write(x, 5)
		Sum(x)
		if put(x, 0) != before {
			t.Errorf("%x before, and now %x", before, put(x, 0))
		}
	}
}

// Rule 1: any slot, and the table that Read returns with an error, are accepted.
func TestAnySlot(t *testing.T) {
	x := some(t)
	for _, slot := range []int{math.MinInt, -1} {
		if got, want := Write(x, slot), Write(x, 0); got != want {
			t.Errorf("%d: %x, not %x", slot, got, want)
		}
	}
	fails(t, Write(x, math.MaxInt), api.ErrBig)
	x, _, _ = Read("")
	Write(x, 1)
	Sum(x)
}
