package seal

import (
	"hash/crc32"
	"math/rand"
	"strings"
	"testing"

	"chatelaine/api"
)

// bytes returns n bytes.
func bytes(g *rand.Rand, n int) string {
	b := make([]byte, n)
	g.Read(b)
	return string(b)
}

// sealed returns a frame, put together by the chapter's words alone.
func sealed(kind byte, s string) string {
	f := string([]byte{kind, byte(len(s) >> 16), byte(len(s) >> 8), byte(len(s))}) + s
	c := crc32.ChecksumIEEE([]byte(f))
	return f + string([]byte{byte(c >> 24), byte(c >> 16), byte(c >> 8), byte(c)})
}

// P2.1: the checksum, also against the library's.
func TestSum(t *testing.T) {
	for s, want := range map[string]uint32{
		"":                  0,
		"123456789":         0xcbf43926,
		"a":                 0xe8b7be43,
		"\x00":              0xd202ef8d,
		"\x00\x00\x00\x00":  0x2144df1c,
		"\xff\xff\xff\xff":  0xffffffff,
		"\x80\x01\xfe\x7f.": crc32.ChecksumIEEE([]byte("\x80\x01\xfe\x7f.")),
	} {
		if got := Sum(s); got != want {
			t.Errorf("Sum(%x): %x, not %x", s, got, want)
		}
	}
	g := rand.New(rand.NewSource(1))
	for range 500 {
		s := bytes(g, g.Intn(300))
		if got := Sum(s); got != crc32.ChecksumIEEE([]byte(s)) {
			t.Fatalf("Sum(%x): %x", s, got)
		}
	}
}

// P2.1: the checksum of several strings is that of all of them together.
func TestSumOfSeveral(t *testing.T) {
	if Sum() != 0 || Sum("", "") != 0 {
		t.Errorf("of nothing: %x, %x", Sum(), Sum("", ""))
	}
	s := "123456789"
	for i := range len(s) + 1 {
		for j := i; j <= len(s); j++ {
			if got := Sum(s[:i], s[i:j], s[j:]); got != 0xcbf43926 {
				t.Errorf("parts of %d, %d: %x", i, j-i, got)
			}
		}
	}
	if got := Sum(strings.Split(s, "")...); got != 0xcbf43926 {
		t.Errorf("a list: %x", got)
	}
}

// P2.1: the bytes of a frame.
func TestFrame(t *testing.T) {
	if f := Frame(1, "a"); !strings.HasPrefix(f, "\x01\x00\x00\x01a") || f != sealed(1, "a") {
		t.Errorf("Frame(1, a): %x", f)
	}
	if f := Frame(255, ""); f != sealed(255, "") || len(f) != Over {
		t.Errorf("an empty frame: %x", f)
	}
	if f := Frame(0, "xy"); f != sealed(1, "xy") {
		t.Errorf("the kind 0: %x", f)
	}
	g := rand.New(rand.NewSource(2))
	for _, n := range []int{1, 255, 256, 65535, 65536, 65537, 70000} {
		if s := bytes(g, n); Frame(7, s) != sealed(7, s) {
			t.Errorf("a frame of %d bytes is wrong", n)
		}
	}
}

// P2.1: at most the first Most bytes are the content.
func TestLongestFrame(t *testing.T) {
	if Over != 8 || Most != 1<<20 {
		t.Errorf("Over %d, Most %d", Over, Most)
	}
	s := bytes(rand.New(rand.NewSource(3)), Most)
	for _, more := range []string{"", "x", "xyz"} {
		f := Frame(9, s+more)
		if f != sealed(9, s) {
			t.Fatalf("%d bytes too many: another frame", len(more))
		}
		if kind, in, e := Open(f); kind != 9 || in != s || e != api.OK {
			t.Fatalf("%d bytes too many: %d, %d bytes, %d", len(more), kind, len(in), e)
		}
	}
}

// P2.1: Open returns what Frame put in, whatever is after the frame.
func TestOpen(t *testing.T) {
	g := rand.New(rand.NewSource(4))
	for kind := range 256 {
		s := bytes(g, g.Intn(300))
		for _, after := range []string{"", "z", Frame(3, "other")} {
			k, in, e := Open(Frame(byte(kind), s) + after)
			if k != byte(max(kind, 1)) || in != s || e != api.OK {
				t.Fatalf("kind %d, %x: %d, %x, %d", kind, s, k, in, e)
			}
		}
	}
}

// P2.1: the errors of Open, each where the ones before it do not apply.
func TestOpenErrors(t *testing.T) {
	for _, c := range []struct {
		s    string
		want api.Errno
	}{
		{"", api.ErrEnd},
		{"\x00", api.ErrEnd},
		{"\x00\xff\xff", api.ErrEnd},
		{"\x01\x00\x00", api.ErrEnd},
		{"\x00\x00\x00\x00", api.ErrForm},
		{"\x00\xff\xff\xff", api.ErrForm},
		{sealed(0, "ab"), api.ErrForm},
		{"\x01\x10\x00\x01", api.ErrBig},
		{"\x01\xff\xff\xff", api.ErrBig},
		{"\x01\x10\x00\x00", api.ErrEnd},
		{"\x01\x00\x00\x00", api.ErrEnd},
		{"\x01\x00\x00\x00abc", api.ErrEnd},
		{"\x01\x00\x00\x01abcd", api.ErrEnd},
		{"\x01\x00\x00\x01abcde", api.ErrSum},
		{"\x01\x00\x00\x00abcd", api.ErrSum},
		{"\x02" + sealed(1, "ab")[1:], api.ErrSum},
	} {
		if kind, in, e := Open(c.s); kind != 0 || in != "" || e != c.want {
			t.Errorf("%x: %d, %q, %d, not %d", c.s, kind, in, e, c.want)
		}
	}
	if _, _, e := Open(sealed(1, strings.Repeat("a", Most+1))); e != api.ErrBig {
		t.Errorf("a content that is too long: %d", e)
	}
}

// P2.1: any bytes are an error, or begin with the frame of what they contain.
func TestOpenAnyBytes(t *testing.T) {
	g := rand.New(rand.NewSource(5))
	for range 20000 {
		s := bytes(g, g.Intn(20))
		if g.Intn(2) == 0 && len(s) > 3 {
			s = s[:1] + "\x00\x00" + string([]byte{byte(g.Intn(12))}) + s[4:]
		}
		kind, in, e := Open(s)
		if e != api.OK && (kind != 0 || in != "") {
			t.Fatalf("%x: %d, %x beside an error", s, kind, in)
		}
		if e == api.OK && !strings.HasPrefix(s, Frame(kind, in)) {
			t.Fatalf("%x does not begin with that frame", s)
		}
		if l, n := Scan(s); (e == api.OK) != (len(l) > 0) || n > len(s) {
			t.Fatalf("%x: %d frames, %d bytes", s, len(l), n)
		}
	}
}

// frames returns some frames, what they contain, and where each one ends.
func frames() (string, []Part, []int) {
	all, parts, ends := "", []Part{}, []int{}
	for _, p := range []Part{{1, "a"}, {7, ""}, {255, "123456789"}, {7, Frame(1, "inner")}, {1, "\x00\x00\x00\x00"}} {
		all += Frame(p.Kind, p.In)
		parts = append(parts, p)
		ends = append(ends, len(all))
	}
	return all, parts, ends
}

// before returns how many frames end at or before a place.
func before(ends []int, at int) int {
	n := 0
	for n < len(ends) && ends[n] <= at {
		n++
	}
	return n
}

// expect fails unless Scan of s returns the first n frames.
func expect(t *testing.T, s string, parts []Part, ends []int, n int) {
	t.Helper()
	l, size := Scan(s)
	want := 0
	if n > 0 {
		want = ends[n-1]
	}
	if len(l) != n || size != want {
		t.Fatalf("%x: %d frames and %d bytes, not %d and %d", s, len(l), size, n, want)
	}
	for i, p := range l {
		if p != parts[i] {
			t.Fatalf("%x: frame %d is %v", s, i, p)
		}
	}
}

// P2.2: what is truncated anywhere still has exactly its complete frames.
func TestScanOfTruncatedFrames(t *testing.T) {
	all, parts, ends := frames()
	for n := range len(all) + 1 {
		expect(t, all[:n], parts, ends, before(ends, n))
	}
	if l, n := Scan(""); len(l) != 0 || n != 0 {
		t.Errorf("no bytes: %d frames, %d bytes", len(l), n)
	}
}

// P2.2: Scan stops at the first thing that is not a frame.
func TestScanStops(t *testing.T) {
	all, parts, ends := frames()
	for _, s := range []string{"\x00", "\x00\x00\x00\x00", "\x01\xff\x00\x00", "\x01\x00\x00\x01abcde"} {
		expect(t, all+s+all, parts, ends, len(parts))
		expect(t, s+all, parts, ends, 0)
	}
}

// altered returns s, with the bytes from a place on xored.
func altered(s string, at int, by ...byte) string {
	b := []byte(s)
	for i, x := range by {
		b[at+i] ^= x
	}
	return string(b)
}

// P2.3: up to four consecutive bytes that are altered are detected, in the
// content and in the checksum of each frame.
func TestScanOfAlteredFrames(t *testing.T) {
	all, parts, ends := frames()
	g := rand.New(rand.NewSource(6))
	start := 0
	for n, end := range ends {
		for _, area := range [][2]int{{start + 4, end - 4}, {end - 4, end}} {
			for at := area[0]; at < area[1]; at++ {
				for bit := range 8 {
					expect(t, altered(all, at, 1<<bit), parts, ends, n)
				}
				for range 300 {
					by := []byte(bytes(g, 1+g.Intn(min(4, area[1]-at))))
					by[0] |= 1
					expect(t, altered(all, at, by...), parts, ends, n)
				}
			}
		}
		start = end
	}
}

// P2.3: the same in a long frame.
func TestScanOfALongAlteredFrame(t *testing.T) {
	g := rand.New(rand.NewSource(7))
	in := bytes(g, 5000)
	all := Frame(1, "first") + Frame(2, in) + Frame(3, "last")
	start := len(Frame(1, "first")) + 4
	for range 200 {
		by := []byte(bytes(g, 4))
		by[0] |= 1
		l, n := Scan(altered(all, start+g.Intn(len(in)-3), by...))
		if len(l) != 1 || l[0] != (Part{1, "first"}) || n != start-4 {
			t.Fatalf("%d frames, %d bytes", len(l), n)
		}
	}
}
