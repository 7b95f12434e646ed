package path

import (
	"cmp"
	"errors"
	"math/rand"
	"regexp"
	"slices"
	"strings"
	"testing"

	"chatelaine/api"
	"chatelaine/fault"
)

// form is what the chapter says about the text of a path.
var form = regexp.MustCompile(`\A(/|(/[a-z0-9_-]{1,16}){1,6})\z`)

// full is a part of the greatest length.
const full = "0123456789abcdef"

// parsed returns the path with the text s, which has one.
func parsed(t *testing.T, s string) Path {
	t.Helper()
	p, err := Parse(s)
	if err != nil {
		t.Fatalf("Parse(%q): %v", s, err)
	}
	return p
}

// refused fails unless p is the root and err says that there is no path.
func refused(t *testing.T, what any, p Path, err error) {
	t.Helper()
	f, ok := err.(*fault.Fault)
	if !ok || f.Code != api.ErrPath || f.Where != "path" || !errors.Is(f.Cause, fault.Of(api.ErrPath)) || fault.Text(err) != "path: code 10" {
		t.Errorf("%q: the error is %v", what, err)
	}
	if p != (Path{}) {
		t.Errorf("%q: the path is %q", what, p.Text())
	}
}

// examine fails unless Parse and the methods treat s as the chapter says.
func examine(t *testing.T, s string) {
	t.Helper()
	p, err := Parse(s)
	if !form.MatchString(s) {
		refused(t, s, p, err)
		return
	}
	if err != nil || p.Text() != s {
		t.Fatalf("Parse(%q): %q, %v", s, p.Text(), err)
	}
	var want []string
	if s != "/" {
		want = strings.Split(s[1:], "/")
	}
	if got := p.Parts(); !slices.Equal(got, want) || p.Depth() != len(want) {
		t.Errorf("%q: the parts are %q, %d in number", s, got, p.Depth())
	}
	if q, err := Made(want...); err != nil || q != p {
		t.Errorf("Made(%q): %q, %v", want, q.Text(), err)
	}
}

// texts calls visit with each text of at most n of these symbols.
func texts(n int, symbols []string, visit func(s string)) {
	visit("")
	if n == 0 {
		return
	}
	for _, x := range symbols {
		texts(n-1, symbols, func(s string) { visit(x + s) })
	}
}

// P5.1: every short text, valid or not, and long ones.
func TestEveryText(t *testing.T) {
	texts(6, []string{"/", "a", "Z", "-"}, func(s string) { examine(t, s) })
	texts(5, []string{"/a", "/", "b_0", " ", "."}, func(s string) { examine(t, s) })
	texts(3, []string{"/" + full, full, "/a/b", "/a/b/c", "x"}, func(s string) { examine(t, s) })
}

// P5.1: which texts are paths, and which are not.
func TestSomeTexts(t *testing.T) {
	for s, parts := range map[string]int{
		"/": 0, "/a": 1, "/a/b": 2, "/a/a/a": 3, "/-/_/0": 3, "/--": 1, "/a-b_c9/z": 2,
		"/a/b/c/d/e/f": 6, "/" + full: 1, strings.Repeat("/"+full, 6): 6,
		"": -1, "a": -1, "a/b": -1, "/a/": -1, "//": -1, "//a": -1, "/a//b": -1, "/A": -1, "/aB": -1,
		"/a/b/c/d/e/f/g": -1, "/a/b/c/d/e/f/": -1, "//b/c/d/e/f": -1, "/" + full + "g": -1, "/a/" + full + "g": -1,
		"/.": -1, "/..": -1, "/a.b": -1, "/a b": -1, " /a": -1, "/a ": -1, "/a\n": -1, "\n/a": -1, "/a\x00": -1, "/\x00": -1,
		"/é": -1, "/ａ": -1, "/\xff": -1, "/a\x80": -1, "\\a": -1, "/%61": -1, "/a?": -1,
	} {
		examine(t, s)
		if p, err := Parse(s); (err != nil) != (parts < 0) || err == nil && p.Depth() != parts {
			t.Errorf("Parse(%q): %q, %v", s, p.Text(), err)
		}
	}
}

// P5.1: every byte, in each place of a text and of a part.
func TestEveryByte(t *testing.T) {
	for b := range 256 {
		x := string([]byte{byte(b)})
		for _, s := range []string{x, "/" + x, x + "a", "/" + x + "a", "/a" + x, "/a" + x + "b", "/a/" + x} {
			examine(t, s)
		}
		ok := b >= 'a' && b <= 'z' || b >= '0' && b <= '9' || b == '-' || b == '_'
		if _, err := Made(x); (err == nil) != ok {
			t.Errorf("Made(%q): %v", x, err)
		}
		if _, err := Made("a", "b"+x); (err == nil) != ok {
			t.Errorf("Made(a, %q): %v", "b"+x, err)
		}
	}
}

// P5.1: parts that are no parts, although some would be texts of paths
// together.
func TestMade(t *testing.T) {
	for _, l := range [][]string{
		{""}, {"", ""}, {"a", ""}, {"", "a"}, {"a", "", "b"}, {"/"}, {"/a"}, {"a/b"}, {"a/"}, {"a", "/"},
		{"A"}, {"a", "B"}, {full + "g"}, {"a", full + "g"}, {"\xff"}, {"é"}, {"a\x00"},
		{"a", "b", "c", "d", "e", "f", "g"}, {"a", "b", "c", "d", "e", "f", ""}, {"a", "b", "c", "d", "e", "F"},
	} {
		p, err := Made(l...)
		refused(t, l, p, err)
	}
	for _, l := range [][]string{nil, {}, {"a"}, {"a", "a"}, {full, "-", "_", "0", "9", full}} {
		p, err := Made(l...)
		if err != nil || !slices.Equal(p.Parts(), l) || p.Depth() != len(l) || p.Text() != "/"+strings.Join(l, "/") {
			t.Errorf("Made(%q): %q, %v", l, p.Text(), err)
		}
	}
}

// P5.1: inputs that are far too long are no paths.
func TestFarTooLong(t *testing.T) {
	for _, s := range []string{strings.Repeat("/a", 1<<20), strings.Repeat("/", 1<<20), "/" + strings.Repeat("a", 1<<20), strings.Repeat("a", 1<<20)} {
		p, err := Parse(s)
		refused(t, s[:4], p, err)
		p, err = Made(s)
		refused(t, s[:4], p, err)
	}
	p, err := Made(slices.Repeat([]string{"a"}, 1<<20)...)
	refused(t, "many", p, err)
}

// P5.1: the zero path is the root, and paths are equal by == if their parts
// are.
func TestEqual(t *testing.T) {
	var zero Path
	made, err := Made()
	if err != nil || made != zero || parsed(t, "/") != zero || zero.Text() != "/" || zero.Depth() != 0 || len(zero.Parts()) != 0 {
		t.Errorf("the root is %q, %q, %v", made.Text(), zero.Text(), err)
	}
	l := family()
	for _, s := range l {
		for _, o := range l {
			if (parsed(t, s) == parsed(t, o)) != (s == o) {
				t.Errorf("%q and %q are equal, or not", s, o)
			}
		}
	}
	if parsed(t, "/a/b").Up() != parsed(t, "/a") || parsed(t, "/a").Up() != zero {
		t.Error("what Up returns is not equal")
	}
	m := map[Path]int{parsed(t, "/a/b"): 1, zero: 2}
	if m[parsed(t, "/a/b/c").Up()] != 1 || m[parsed(t, "/")] != 2 || m[parsed(t, "/a")] != 0 {
		t.Errorf("%v", m)
	}
}

// P5.1: Up leaves out the last part, up to the root.
func TestUp(t *testing.T) {
	for _, s := range append(family(), "/"+full+"/"+full, strings.Repeat("/"+full, 6)) {
		p := parsed(t, s)
		parts := p.Parts()
		for n := len(parts) - 1; n >= 0; n-- {
			p = p.Up()
			if !slices.Equal(p.Parts(), parts[:n]) || p.Depth() != n || p.Text() != "/"+strings.Join(parts[:n], "/") {
				t.Errorf("above %q, at %d parts: %q", s, n, p.Text())
			}
		}
		if p.Up() != (Path{}) {
			t.Errorf("above the root: %q", p.Up().Text())
		}
	}
}

// P5.1: a path has no memory in common with what it was made of, or with its
// parts.
func TestMemory(t *testing.T) {
	l := append(make([]string, 0, 8), "a", "b")
	spare := append(l, "spare")
	p, _ := Made(l...)
	if !slices.Equal(spare, []string{"a", "b", "spare"}) {
		t.Errorf("Made changed its arguments: %q", spare)
	}
	l[0] = "x"
	first, second := p.Parts(), p.Parts()
	first[0] = "y"
	_ = append(first[:1], "z")
	if p.Text() != "/a/b" || !slices.Equal(second, []string{"a", "b"}) || !slices.Equal(p.Parts(), second) {
		t.Errorf("%q, %q, %q", p.Text(), second, p.Parts())
	}
}

// family returns the texts of paths of which many are in line. Their parts are
// close to each other: one is the beginning of another one, and some contain
// the byte before the slash.
func family() []string {
	parts := []string{"a", "a-", "aa", "-", "a_", "0", "_z"}
	l := []string{"/"}
	for _, x := range parts {
		l = append(l, "/"+x)
		for _, y := range parts {
			l = append(l, "/"+x+"/"+y)
			for _, z := range parts[:4] {
				l = append(l, "/"+x+"/"+y+"/"+z)
			}
		}
	}
	return append(l, "/a/a/a/a", "/a/a/a/a/a", "/a/a/a/a/a/a", "/a/a/a/a/a/a-", "/a/a/a/a/aa")
}

// over reports whether the list l begins with the list first.
func over(first, l []string) bool {
	return len(first) <= len(l) && slices.Equal(first, l[:len(first)])
}

// P5.2: two paths, both ways.
func TestTwoPaths(t *testing.T) {
	for _, c := range []struct {
		a, b        string
		over, under bool
		order       int
	}{
		{"/", "/", true, true, 0},
		{"/", "/a", true, false, -1},
		{"/", "/a/b/c/d/e/f", true, false, -1},
		{"/a", "/a", true, true, 0},
		{"/a", "/a/b", true, false, -1},
		{"/a", "/a/b/c", true, false, -1},
		{"/a/b", "/a/b/a", true, false, -1},
		{"/a", "/b", false, false, -1},
		{"/a", "/ab", false, false, -1},
		{"/a", "/ab/c", false, false, -1},
		{"/a/b", "/a/bc", false, false, -1},
		{"/a/b", "/a-/b", false, false, -1},
		{"/a/b", "/a-", false, false, -1},
		{"/a/b", "/b", false, false, -1},
		{"/a/b", "/b/a/b", false, false, -1},
		{"/a/b", "/a/c", false, false, -1},
		{"/a/z", "/b/a", false, false, -1},
		{"/ab", "/b", false, false, -1},
		{"/-", "/0", false, false, -1},
		{"/9", "/_", false, false, -1},
		{"/_", "/a", false, false, -1},
		{"/10", "/9", false, false, -1},
		{"/" + full, "/" + full + "/a", true, false, -1},
	} {
		a, b := parsed(t, c.a), parsed(t, c.b)
		if a.Over(b) != c.over || b.Over(a) != c.under {
			t.Errorf("Over: %q, %q: %v, %v", c.a, c.b, a.Over(b), b.Over(a))
		}
		if InLine(a, b) != (c.over || c.under) || InLine(b, a) != (c.over || c.under) {
			t.Errorf("InLine: %q, %q: %v, %v", c.a, c.b, InLine(a, b), InLine(b, a))
		}
		if Compare(a, b) != c.order || Compare(b, a) != -c.order {
			t.Errorf("Compare: %q, %q: %d, %d", c.a, c.b, Compare(a, b), Compare(b, a))
		}
	}
}

// P5.2: every two paths of a family, against their parts.
func TestEveryTwoPaths(t *testing.T) {
	l := family()
	for _, s := range l {
		a := parsed(t, s)
		for _, o := range l {
			b := parsed(t, o)
			if got := a.Over(b); got != over(a.Parts(), b.Parts()) {
				t.Errorf("%q over %q: %v", s, o, got)
			}
			if got := InLine(a, b); got != (over(a.Parts(), b.Parts()) || over(b.Parts(), a.Parts())) {
				t.Errorf("%q and %q in line: %v", s, o, got)
			}
			if got := Compare(a, b); got != order(a.Parts(), b.Parts()) {
				t.Errorf("%q compared with %q: %d", s, o, got)
			}
		}
	}
}

// order compares two lists of parts: one after the other, and bytewise.
func order(a, b []string) int {
	for i := range min(len(a), len(b)) {
		if n := strings.Compare(a[i], b[i]); n != 0 {
			return n
		}
	}
	return cmp.Compare(len(a), len(b))
}

// sorted returns the paths of the family, in order.
func sorted(t *testing.T) []Path {
	var l []Path
	for _, s := range family() {
		l = append(l, parsed(t, s))
	}
	g := rand.New(rand.NewSource(1))
	g.Shuffle(len(l), func(i, j int) { l[i], l[j] = l[j], l[i] })
	slices.SortFunc(l, Compare)
	return l
}

// P5.3: Compare is a total order: of paths in order, each one is less than all
// that come later.
func TestTotalOrder(t *testing.T) {
	l := sorted(t)
	for i, a := range l {
		for j, b := range l {
			if n := Compare(a, b); n != cmp.Compare(i, j) {
				t.Fatalf("%q, %q: %d, at %d and %d", a.Text(), b.Text(), n, i, j)
			}
		}
	}
}

// P5.3: in order, what is below a path comes directly after it.
func TestBelowComesDirectlyAfter(t *testing.T) {
	l := sorted(t)
	for i, p := range l {
		next := i
		for j, o := range l {
			if !over(p.Parts(), o.Parts()) {
				continue
			}
			if j != next {
				t.Fatalf("%q comes between %q and %q", l[next].Text(), p.Text(), o.Text())
			}
			next++
		}
	}
}
