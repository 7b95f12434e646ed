package route

import (
	"errors"
	"math"
	"slices"
	"testing"

	"chatelaine/api"
	"chatelaine/fault"
	"chatelaine/path"
)

// parsed returns the path with the text s, which has one.
func parsed(t *testing.T, s string) path.Path {
	t.Helper()
	p, err := path.Parse(s)
	if err != nil {
		t.Fatalf("%q: %v", s, err)
	}
	return p
}

// table returns the table of the subtrees of these paths.
func table(t *testing.T, prefixes ...string) *Table {
	t.Helper()
	tab, err := New(prefixes...)
	if err != nil || tab == nil {
		t.Fatalf("New(%q): %v", prefixes, err)
	}
	return tab
}

// wrap fails unless err is an error with that text and code, wrapped with
// "route" once.
func wrap(t *testing.T, what any, err error, code api.Errno, text string) {
	t.Helper()
	f, ok := err.(*fault.Fault)
	if !ok || f.Where != "route" || f.Code != code || f.Cause == nil || !errors.Is(err, fault.Of(code)) || fault.Text(err) != text {
		t.Errorf("%q: the error is %v, not %s", what, err, text)
	}
}

// lost fails unless p is in no subtree.
func lost(t *testing.T, tab *Table, p path.Path) {
	t.Helper()
	i, err := tab.Find(p)
	wrap(t, p.Text(), err, api.ErrRoute, "route: code 11")
	if i != -1 {
		t.Errorf("Find(%q): %d", p.Text(), i)
	}
}

// P6.1: the errors of New, and which one is the first.
func TestErrorsOfNew(t *testing.T) {
	const config, form, line = "route: code 12", "route: path: code 10", "route: code 11"
	for _, c := range []struct {
		l    []string
		want string
	}{
		{nil, config},
		{[]string{}, config},
		{[]string{"/a", "/b", "/c", "/d", "/e"}, config},
		{[]string{"a", "/b", "/c", "/d", "/e"}, config},
		{[]string{"/a", "/a", "/a", "/a", "/a"}, config},
		{make([]string, 1<<16), config},

		{[]string{""}, form},
		{[]string{"a"}, form},
		{[]string{"/a/"}, form},
		{[]string{"/a", "/B"}, form},
		{[]string{"/a", "/b", "/c", "//"}, form},
		{[]string{"/a", "/a", "x"}, form},
		{[]string{"x", "/a", "/a"}, form},
		{[]string{"/", "/a", "/b", "/c/d/e/f/g/h/i"}, form},

		{[]string{"/a", "/a"}, line},
		{[]string{"/", "/"}, line},
		{[]string{"/", "/a"}, line},
		{[]string{"/a", "/"}, line},
		{[]string{"/a", "/a/b"}, line},
		{[]string{"/a/b", "/a"}, line},
		{[]string{"/a/b/c", "/a"}, line},
		{[]string{"/x", "/a", "/y", "/a/b"}, line},
		{[]string{"/a/b", "/x", "/a", "/y"}, line},
		{[]string{"/x", "/y", "/a/b", "/a"}, line},
		{[]string{"/x", "/y", "/y", "/z"}, line},
	} {
		tab, err := New(c.l...)
		code := map[string]api.Errno{config: api.ErrConfig, form: api.ErrPath, line: api.ErrRoute}[c.want]
		wrap(t, c.l[:min(len(c.l), 5)], err, code, c.want)
		if tab != nil {
			t.Errorf("New(%q) returns a table", c.l)
		}
	}
}

// P6.1: New with an error of path.Parse wraps that very error.
func TestNewWrapsTheErrorOfParse(t *testing.T) {
	_, want := path.Parse("a")
	_, err := New("/b", "a")
	got, ok := errors.Unwrap(err).(*fault.Fault)
	if !ok || got.Where != "path" || fault.Text(got) != fault.Text(want) {
		t.Errorf("%v, not %v", got, want)
	}
}

// P6.1: tables from one subtree to the most that there may be, in the given
// order.
func TestTables(t *testing.T) {
	for _, l := range [][]string{
		{"/"}, {"/a"}, {"/a/b/c/d/e/f"}, {"/b", "/a"}, {"/a", "/ab"}, {"/a", "/a-", "/a_"},
		{"/d", "/c", "/b", "/a"}, {"/a/b", "/a/c", "/b/a", "/c"}, {"/z/a", "/a/z", "/a/y", "/b"},
	} {
		tab := table(t, l...)
		if tab.Len() != len(l) {
			t.Errorf("%q: %d subtrees", l, tab.Len())
		}
		for i, s := range l {
			if tab.Prefix(i) != parsed(t, s) {
				t.Errorf("%q: %d is %q", l, i, tab.Prefix(i).Text())
			}
			for _, below := range []string{s, s + "/x", s + "/a/a"} {
				if p, err := path.Parse(below); err == nil {
					if n, err := tab.Find(p); n != i || err != nil {
						t.Errorf("%q: %q is in %d, %v", l, below, n, err)
					}
				}
			}
		}
		for _, i := range []int{-1, -2, len(l), len(l) + 1, api.MaxSubs, math.MinInt, math.MaxInt} {
			if tab.Prefix(i) != (path.Path{}) {
				t.Errorf("%q: %d is %q", l, i, tab.Prefix(i).Text())
			}
		}
	}
}

// P6.1: the examples, and paths in no subtree.
func TestFind(t *testing.T) {
	tab := table(t, "/a", "/b/c")
	for s, want := range map[string]int{"/a": 0, "/a/x": 0, "/a/b/c": 0, "/a/a/a/a/a/a": 0, "/b/c": 1, "/b/c/a": 1} {
		if i, err := tab.Find(parsed(t, s)); i != want || err != nil {
			t.Errorf("%q is in %d, %v", s, i, err)
		}
	}
	for _, s := range []string{"/", "/b", "/ab", "/a-", "/b/cc", "/b/a", "/c", "/c/a", "/b/a/c", "/aa/x"} {
		lost(t, tab, parsed(t, s))
	}
	all := table(t, "/")
	for _, s := range []string{"/", "/a", "/z/z/z/z/z/z"} {
		if i, err := all.Find(parsed(t, s)); i != 0 || err != nil {
			t.Errorf("%q is in %d, %v", s, i, err)
		}
	}
}

// P6.1: no table, as New returns it with an error, has no subtrees.
func TestNoTable(t *testing.T) {
	var tab *Table
	if tab.Len() != 0 || tab.Prefix(0) != (path.Path{}) {
		t.Errorf("%d, %q", tab.Len(), tab.Prefix(0).Text())
	}
	lost(t, tab, path.Path{})
	lost(t, &Table{}, path.Path{})
}

// P6.1: a table keeps nothing of the list that it was made of.
func TestMemory(t *testing.T) {
	l := append(make([]string, 0, 4), "/a", "/b")
	spare := append(l, "/spare")
	tab, other := table(t, l...), table(t, l...)
	if !slices.Equal(spare, []string{"/a", "/b", "/spare"}) {
		t.Errorf("New changed its arguments: %q", spare)
	}
	l[0] = "/c"
	for range 2 {
		if i, err := tab.Find(parsed(t, "/a")); i != 0 || err != nil || tab.Prefix(0).Text() != "/a" || tab.Len() != 2 {
			t.Errorf("%d, %v, %q", i, err, tab.Prefix(0).Text())
		}
	}
	lost(t, other, parsed(t, "/c"))
}

// family returns paths of which many are in line.
func family(t *testing.T) []path.Path {
	var l []path.Path
	for _, s := range []string{"/", "/a", "/a-", "/a/a", "/a/a-", "/a/a/a", "/aa", "/aa/a", "/b", "/b/a", "/b/a/a", "/b/b"} {
		l = append(l, parsed(t, s))
	}
	return l
}

// P6.1, P6.2: all tables of one to three paths of a family.
func TestEveryTable(t *testing.T) {
	l := family(t)
	n := 0
	for i, a := range l {
		hold(t, l, a)
		for j, b := range l {
			n += hold(t, l, a, b)
			for k, c := range l {
				if i != j && j != k && i != k {
					n += hold(t, l, a, b, c)
				}
			}
		}
	}
	if n < 100 {
		t.Errorf("only %d tables", n)
	}
}

// hold fails unless a table of these prefixes is refused or has each path of l
// in the subtrees whose prefix is above it, of which there is at most one. It
// returns how many tables there are.
func hold(t *testing.T, l []path.Path, prefixes ...path.Path) int {
	t.Helper()
	var texts []string
	cross := false
	for i, p := range prefixes {
		texts = append(texts, p.Text())
		for _, o := range prefixes[:i] {
			cross = cross || p.Over(o) || o.Over(p)
		}
	}
	tab, err := New(texts...)
	if cross {
		wrap(t, texts, err, api.ErrRoute, "route: code 11")
		return 0
	}
	if err != nil {
		t.Fatalf("New(%q): %v", texts, err)
	}
	for _, p := range l {
		in := within(prefixes, p)
		i, err := tab.Find(p)
		switch {
		case len(in) > 1:
			t.Fatalf("%q: %q is in %d", texts, p.Text(), in)
		case len(in) == 0:
			lost(t, tab, p)
		case i != in[0] || err != nil:
			t.Fatalf("%q: %q is in %d, %v", texts, p.Text(), i, err)
		}
		for _, o := range l {
			if j, _ := tab.Find(o); path.InLine(p, o) && i >= 0 && j >= 0 && i != j {
				t.Fatalf("%q: %q is in %d, and %q in %d", texts, p.Text(), i, o.Text(), j)
			}
		}
	}
	return 1
}

// within returns the numbers of the prefixes that p is at or below.
func within(prefixes []path.Path, p path.Path) []int {
	var l []int
	for i, prefix := range prefixes {
		parts := prefix.Parts()
		if n := len(parts); p.Depth() >= n && slices.Equal(parts, p.Parts()[:n]) {
			l = append(l, i)
		}
	}
	return l
}
