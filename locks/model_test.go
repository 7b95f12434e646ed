package locks

import (
	"cmp"
	"math/rand"
	"slices"
	"strings"
	"testing"

	"chatelaine/api"
	"chatelaine/path"
)

// parts returns the parts of a path, but not those of the root.
func parts(p path.Path) []string { return strings.Split(strings.Trim(p.Text(), "/"), "/") }

// clash reports whether two locks conflict.
func clash(x, o Lock) bool {
	if x.Session == o.Session || !x.Excl && !o.Excl {
		return false
	}
	if x.Path.Text() == "/" || o.Path.Text() == "/" {
		return true
	}
	a, b := parts(x.Path), parts(o.Path)
	n := min(len(a), len(b))
	return slices.Equal(a[:n], b[:n])
}

// key returns the session and the path of a lock.
func key(x Lock) Lock { return Lock{Session: x.Session, Path: x.Path} }

// before reports whether x comes before o in the order of Held.
func before(x, o Lock) bool {
	return cmp.Or(slices.Compare(parts(x.Path), parts(o.Path)), cmp.Compare(x.Session, o.Session)) < 0
}

// model is a book as the chapter describes it; what is held is in any order.
type model struct {
	held, waits []Lock
	last        uint64
}

// newModel returns an empty one.
func newModel(g *rand.Rand) *model {
	x := &model{last: uint64(g.Intn(3))}
	if g.Intn(5) == 0 {
		x.last = most - uint64(g.Intn(12))
	}
	return x
}

// clone returns an independent copy.
func (x *model) clone() *model {
	return &model{held: slices.Clone(x.held), waits: slices.Clone(x.waits), last: x.last}
}

// mayHave reports whether neither a held lock nor any of these requests
// conflicts with r.
func (x *model) mayHave(r Lock, older []Lock) bool {
	for _, o := range slices.Concat(x.held, older) {
		if clash(r, o) {
			return false
		}
	}
	return true
}

func (x *model) grant(r Lock) Lock {
	x.last++
	r.Token = x.last
	x.held = append(x.held, r)
	return r
}

func (x *model) acquire(r Lock, wait bool) (Lock, int, api.Errno) {
	r.Token = 0
	number := 0
	for _, o := range slices.Concat(x.held, x.waits) {
		if o.Session == r.Session {
			number++
		}
	}
	if o, place := x.find(r); place >= 0 {
		if o.Excl != r.Excl {
			return Lock{}, 0, api.ErrHeld
		}
		return o, place, api.OK
	}
	if number >= 8 {
		return Lock{}, 0, api.ErrFull
	}
	if x.mayHave(r, x.waits) {
		if x.last == most {
			return Lock{}, 0, api.ErrExhausted
		}
		return x.grant(r), 0, api.OK
	}
	if !wait {
		return Lock{}, 0, api.ErrHeld
	}
	if len(x.waits) >= 8 {
		return Lock{}, 0, api.ErrFull
	}
	x.waits = append(x.waits, r)
	return r, len(x.waits), api.OK
}

func (x *model) find(r Lock) (Lock, int) {
	for _, o := range x.held {
		if key(o) == key(r) {
			return o, 0
		}
	}
	for i, o := range x.waits {
		if key(o) == key(r) {
			return o, i + 1
		}
	}
	return Lock{}, -1
}

// without returns the locks of a list that are not gone.
func without(l []Lock, gone func(o Lock) bool) []Lock {
	var left []Lock
	for _, o := range l {
		if !gone(o) {
			left = append(left, o)
		}
	}
	return left
}

// remove removes what is gone, and examines each request once.
func (x *model) remove(gone func(o Lock) bool) []Lock {
	x.held, x.waits = without(x.held, gone), without(x.waits, gone)
	var granted []Lock
	for i := 0; i < len(x.waits); i++ {
		if x.last < most && x.mayHave(x.waits[i], x.waits[:i]) {
			granted = append(granted, x.grant(x.waits[i]))
			x.waits = slices.Delete(x.waits, i, i+1)
			i--
		}
	}
	return granted
}

func (x *model) release(r Lock) ([]Lock, api.Errno) {
	if _, place := x.find(r); place < 0 {
		return nil, api.ErrNone
	}
	return x.remove(func(o Lock) bool { return key(o) == key(r) }), api.OK
}

// check fails unless the book has the content of the model, which holds P22.2
// and P22.4.
func (x *model) check(t *testing.T, b *Book) {
	t.Helper()
	held := slices.Clone(x.held)
	slices.SortFunc(held, func(a, b Lock) int {
		if before(a, b) {
			return -1
		}
		return 1
	})
	has(t, b, held, x.waits, x.last)
	for i, o := range held {
		for _, p := range held[:i] {
			if clash(o, p) {
				t.Fatalf("P22.2: %v and %v are held", p, o)
			}
		}
	}
	for i, r := range x.waits {
		if x.last < most && x.mayHave(r, x.waits[:i]) {
			t.Fatalf("P22.4: %v waits for nothing", r)
		}
	}
}

// fair fails unless the tokens of what was granted increase from a last one on,
// and no older request that conflicts waits.
func fair(t *testing.T, b *Book, waits, granted []Lock, last uint64) {
	t.Helper()
	for _, x := range granted {
		if x.Token <= last {
			t.Fatalf("P22.3: token %d after %d", x.Token, last)
		}
		last = x.Token
		for _, older := range waits {
			if key(older) == key(x) {
				break
			}
			if _, place := b.Find(older.Session, older.Path); place > 0 && clash(older, x) {
				t.Fatalf("P22.4: %v is granted while %v waits", x, older)
			}
		}
	}
	if b.Last() != last {
		t.Fatalf("P22.3: the last token is %d, not %d", b.Last(), last)
	}
}

// random returns any lock.
func random(g *rand.Rand) Lock {
	texts := []string{"/", "/a", "/a/b", "/a/b/c", "/a/c", "/a-b", "/ab", "/b", "/b/a", "/c", "/d", "/e"}
	if g.Intn(8) > 0 {
		texts = texts[1:]
	}
	p, err := path.Parse(texts[g.Intn(len(texts))])
	if err != nil {
		panic(err)
	}
	x := Lock{Session: 1 + g.Intn(5), Path: p, Excl: g.Intn(2) == 0}
	if g.Intn(4) == 0 {
		x.Token = uint64(g.Intn(20))
	}
	if g.Intn(50) == 0 {
		x.Session = g.Intn(2) - 1
	}
	return x
}

// call makes one call of the book and of the model, and returns what is granted.
func call(t *testing.T, g *rand.Rand, b *Book, x *model) []Lock {
	t.Helper()
	r := random(g)
	r.Session = max(r.Session, 1)
	if all := slices.Concat(x.held, x.waits); len(all) > 0 && g.Intn(3) == 0 {
		r = all[g.Intn(len(all))]
	}
	switch k := g.Intn(20); {
	case k < 13:
		wait := g.Intn(4) > 0
		_, already := x.find(r)
		l, place, e := b.Acquire(r, wait)
		if want, n, err := x.acquire(r, wait); l != want || place != n || e != err {
			t.Fatalf("Acquire(%v, %v): %v, %d, %d, not %v, %d, %d", r, wait, l, place, e, want, n, err)
		}
		if already >= 0 || place > 0 || e != api.OK {
			return nil
		}
		return list(l)
	case k < 19:
		got, e := b.Release(r.Session, r.Path)
		if want, err := x.release(r); !slices.Equal(got, want) || e != err {
			t.Fatalf("Release(%v): %v, %d, not %v, %d", r, got, e, want, err)
		}
		return got
	default:
		got := b.Drop(r.Session)
		if want := x.remove(func(o Lock) bool { return o.Session == r.Session }); !slices.Equal(got, want) {
			t.Fatalf("Drop(%d): %v, not %v", r.Session, got, want)
		}
		return got
	}
}

// P22.1 to P22.4: after any calls, a book is the model, also when it is a copy
// or was loaded.
func TestAnyCalls(t *testing.T) {
	g := rand.New(rand.NewSource(1))
	granted, queued := 0, 0
	for range 3000 {
		x := newModel(g)
		b := New(x.last)
		for range 100 {
			waits, last := b.Waits(), b.Last()
			got := call(t, g, b, x)
			x.check(t, b)
			fair(t, b, waits, got, last)
			for _, l := range got {
				if slices.ContainsFunc(waits, func(o Lock) bool { return key(o) == key(l) }) {
					granted++
				}
			}
			queued += len(b.Waits())
			switch g.Intn(20) {
			case 0:
				b = b.Clone()
			case 1:
				b = loads(t, b.Held(), b.Waits(), b.Last())
			}
		}
	}
	if granted < 10000 || queued < 300000 {
		t.Errorf("only %d requests were granted, and %d waited", granted, queued)
	}
}

// P22.1 and P22.5: a book and its copy go on independently.
func TestClone(t *testing.T) {
	g := rand.New(rand.NewSource(2))
	for range 500 {
		x := newModel(g)
		b := New(x.last)
		for range 40 {
			call(t, g, b, x)
		}
		c, y := b.Clone(), x.clone()
		for range 40 {
			if g.Intn(2) == 0 {
				call(t, g, b, x)
			} else {
				call(t, g, c, y)
			}
			x.check(t, b)
			y.check(t, c)
		}
	}
}
