package locks

import (
	"math"
	"math/rand"
	"slices"
	"testing"

	"chatelaine/api"
)

// loads fails unless Load returns the book with this content.
func loads(t *testing.T, held, waits []Lock, last uint64) *Book {
	t.Helper()
	b, e := Load(held, waits, last)
	if b == nil || e != api.OK {
		t.Fatalf("Load(%v, %v, %d): %d", held, waits, last, e)
	}
	has(t, b, held, waits, last)
	return b
}

// wrong fails unless Load refuses this content.
func wrong(t *testing.T, held, waits []Lock, last uint64) {
	t.Helper()
	if b, e := Load(held, waits, last); b != nil || e != api.ErrForm {
		t.Fatalf("Load(%v, %v, %d): %v, %d", held, waits, last, b, e)
	}
}

// P22.5: some contents of books.
func TestLoad(t *testing.T) {
	loads(t, nil, nil, 0)
	loads(t, []Lock{}, []Lock{}, 7)
	loads(t, nil, nil, most)
	loads(t, list(excl(t, 1, "/", 1)), nil, 1)
	loads(t, list(excl(t, math.MaxInt, "/", most)), nil, most)
	loads(t, list(shared(t, 1, "/a", 9), shared(t, 2, "/a", 2), shared(t, 1, "/a/b", 5), excl(t, 2, "/a-b", 3)), nil, 9)
	b := loads(t, list(excl(t, 1, "/a", 3)), list(shared(t, 2, "/", 0), excl(t, 3, "/b", 0), excl(t, 2, "/a/b", 0)), 9)
	releases(t, b, 1, "/a", shared(t, 2, "/", 10), excl(t, 2, "/a/b", 11))
	has(t, b, list(shared(t, 2, "/", 10), excl(t, 2, "/a/b", 11)), list(excl(t, 3, "/b", 0)), 11)
	gets(t, b, excl(t, 2, "/c", 12))
	refuses(t, b, excl(t, 4, "/b", 0), false, api.ErrHeld)
}

// P22.5: held locks that are not in the order of Held.
func TestLoadOrder(t *testing.T) {
	loads(t, list(shared(t, 1, "/a", 2), shared(t, 2, "/a", 1)), nil, 9)
	wrong(t, list(shared(t, 2, "/a", 1), shared(t, 1, "/a", 2)), nil, 9)
	wrong(t, list(excl(t, 1, "/b", 1), excl(t, 2, "/a", 2)), nil, 9)
	wrong(t, list(shared(t, 1, "/a/b", 1), shared(t, 2, "/a", 2)), nil, 9)
	wrong(t, list(shared(t, 1, "/a-b", 1), shared(t, 2, "/a/b", 2)), nil, 9)
	loads(t, list(shared(t, 2, "/a/b", 2), shared(t, 1, "/a-b", 1)), nil, 9)
	wrong(t, list(excl(t, 1, "/a", 1), excl(t, 1, "/c", 2), excl(t, 1, "/b", 3)), nil, 9)
	// Nor may a session hold a path twice.
	wrong(t, list(shared(t, 1, "/a", 1), shared(t, 1, "/a", 2)), nil, 9)
	wrong(t, list(shared(t, 1, "/a", 1), excl(t, 1, "/a", 2)), nil, 9)
	wrong(t, list(excl(t, 1, "/a", 1), excl(t, 1, "/a", 1)), nil, 9)
}

// P22.5: sessions that there cannot be, and ones that have too much.
func TestLoadSessions(t *testing.T) {
	for _, session := range []int{math.MinInt, -1, 0} {
		wrong(t, list(excl(t, session, "/a", 1)), nil, 9)
		wrong(t, list(excl(t, 1, "/a", 1)), list(excl(t, session, "/a", 0)), 9)
		wrong(t, nil, list(excl(t, session, "/a", 0)), most)
	}
	for n := range api.MaxHeld + 1 {
		var held, waits []Lock
		for i := range api.MaxHeld {
			if i < n {
				held = append(held, shared(t, 1, names[i], uint64(i+1)))
				continue
			}
			held = append(held, shared(t, 2, names[i], uint64(i+1)))
			waits = append(waits, excl(t, 1, names[i], 0))
		}
		loads(t, held, waits, 20)
		more := append(slices.Clone(held), excl(t, 3, names[8], 9))
		loads(t, more, waits, 20)
		wrong(t, more, append(slices.Clone(waits), shared(t, 1, names[8], 0)), 20)
		more[8].Session = 1
		wrong(t, more, waits, 20)
	}
	// Only the number of one session is limited.
	var held []Lock
	for i := range 50 {
		held = append(held, shared(t, 1+i, "/", uint64(50-i)))
	}
	loads(t, held, nil, 50)
}

// P22.5: tokens that were not given, or twice.
func TestLoadTokens(t *testing.T) {
	wrong(t, list(excl(t, 1, "/a", 0)), nil, 9)
	wrong(t, list(excl(t, 1, "/a", 0)), nil, 0)
	wrong(t, list(excl(t, 1, "/a", 1)), nil, 0)
	wrong(t, list(excl(t, 1, "/a", 10)), nil, 9)
	loads(t, list(excl(t, 1, "/a", 9)), nil, 9)
	wrong(t, list(excl(t, 1, "/a", most)), nil, most-1)
	wrong(t, list(excl(t, 1, "/a", 4), excl(t, 1, "/b", 10)), nil, 9)
	wrong(t, list(excl(t, 1, "/a", 4), excl(t, 2, "/b", 4)), nil, 9)
	wrong(t, list(excl(t, 1, "/a", 4), excl(t, 1, "/b", 5), excl(t, 2, "/c", 4)), nil, 9)
}

// P22.5 and P22.2: held locks that conflict.
func TestLoadConflicts(t *testing.T) {
	wrong(t, list(excl(t, 1, "/a", 1), excl(t, 2, "/a", 2)), nil, 9)
	wrong(t, list(excl(t, 1, "/a", 1), shared(t, 2, "/a", 2)), nil, 9)
	wrong(t, list(shared(t, 1, "/a", 1), excl(t, 2, "/a", 2)), nil, 9)
	wrong(t, list(shared(t, 1, "/", 1), shared(t, 2, "/a", 2), excl(t, 2, "/a/b/c", 3)), nil, 9)
	loads(t, list(shared(t, 2, "/", 1), shared(t, 1, "/a", 2), excl(t, 2, "/b", 3)), nil, 9)
	loads(t, list(excl(t, 1, "/", 1), excl(t, 1, "/a", 2)), nil, 9)
}

// P22.5: too many requests, and those that cannot wait.
func TestLoadWaits(t *testing.T) {
	held := list(excl(t, 1, "/a", 1))
	var waits []Lock
	for i := range api.MaxWait {
		waits = append(waits, shared(t, 2+i, "/a/b", 0))
		loads(t, held, waits, 9)
	}
	wrong(t, held, append(waits, shared(t, 20, "/a/b", 0)), 9)
	wrong(t, held, append(waits, shared(t, 20, "/a/b", 0)), most)

	wrong(t, held, list(shared(t, 2, "/a", 1)), 9)
	wrong(t, held, list(shared(t, 2, "/a", 2)), 9)
	wrong(t, held, list(shared(t, 2, "/a", most)), most)
	// The session has it already.
	wrong(t, held, list(excl(t, 1, "/a", 0)), most)
	wrong(t, held, list(shared(t, 1, "/a", 0)), most)
	wrong(t, held, list(shared(t, 2, "/a", 0), shared(t, 2, "/a", 0)), 9)
	wrong(t, held, list(shared(t, 2, "/a", 0), excl(t, 3, "/a", 0), excl(t, 2, "/a", 0)), 9)
	loads(t, held, list(shared(t, 2, "/a", 0), excl(t, 2, "/a/b", 0)), 9)
}

// P22.5 and P22.4: requests that can be granted.
func TestLoadGranted(t *testing.T) {
	held := list(shared(t, 1, "/a", 1))
	for _, waits := range [][]Lock{
		list(excl(t, 1, "/a/b", 0)), list(shared(t, 2, "/a", 0)), list(excl(t, 2, "/b", 0)),
		list(excl(t, 2, "/a", 0), shared(t, 3, "/b", 0)),
		list(excl(t, 2, "/a/b", 0), shared(t, 3, "/a", 0), shared(t, 3, "/a/c", 0)),
		list(shared(t, 2, "/a", 0), excl(t, 3, "/a", 0)), // the younger one does not hold up the older one
	} {
		for _, last := range []uint64{1, 2, most - 1} {
			wrong(t, held, waits, last)
		}
		loads(t, held, waits, most)
	}
	loads(t, held, list(excl(t, 2, "/a", 0), shared(t, 3, "/a", 0)), 1)
	loads(t, held, list(excl(t, 2, "/", 0), shared(t, 3, "/b", 0)), 1)
	loads(t, nil, list(excl(t, 2, "/a", 0), excl(t, 3, "/a", 0)), most)
	wrong(t, nil, list(excl(t, 2, "/a", 0), excl(t, 3, "/a", 0)), most-1)
}

// isContent reports whether the chapter lets a book have this content.
func isContent(held, waits []Lock, last uint64) bool {
	number := map[int]int{}
	for i, x := range slices.Concat(held, waits) {
		number[x.Session]++
		if x.Session < 1 || number[x.Session] > 8 {
			return false
		}
		if isHeld := i < len(held); isHeld != (x.Token != 0) || x.Token > last {
			return false
		}
	}
	for i, x := range held {
		for j, o := range held {
			if i < j && (before(o, x) || key(o) == key(x) || o.Token == x.Token) || clash(x, o) {
				return false
			}
		}
	}
	for i, x := range waits {
		older := slices.Concat(held, waits[:i])
		if slices.ContainsFunc(older, func(o Lock) bool { return key(o) == key(x) }) {
			return false
		}
		if last < most && !slices.ContainsFunc(older, func(o Lock) bool { return clash(x, o) }) {
			return false
		}
	}
	return len(waits) <= 8
}

// spoiled returns the list with a small change.
func spoiled(g *rand.Rand, l []Lock) []Lock {
	l = slices.Clone(l)
	if len(l) == 0 || g.Intn(5) == 0 {
		return slices.Insert(l, g.Intn(len(l)+1), random(g))
	}
	i, j := g.Intn(len(l)), g.Intn(len(l))
	switch x := random(g); g.Intn(7) {
	case 0:
		l = slices.Delete(l, i, i+1)
	case 1:
		l[i], l[j] = l[j], l[i]
	case 2:
		l[i].Session = x.Session
	case 3:
		l[i].Path = x.Path
	case 4:
		l[i].Excl = !l[i].Excl
	case 5:
		l[i].Token = x.Token
	case 6:
		l = slices.Insert(l, j, l[i])
	}
	return l
}

// P22.5: the content of a book is loaded, and a changed one only if it could be
// that of a book, which goes on like one.
func TestLoadAny(t *testing.T) {
	g := rand.New(rand.NewSource(3))
	loaded, refused := 0, 0
	for range 3000 {
		x := newModel(g)
		b := New(x.last)
		for range g.Intn(60) {
			call(t, g, b, x)
		}
		held, waits, last := b.Held(), b.Waits(), b.Last()
		equal(t, loads(t, held, waits, last), b)
		for range 30 {
			h, w, l := held, waits, last
			for range 1 + g.Intn(2) {
				switch g.Intn(8) {
				case 0:
					l = []uint64{0, 1, last - 1, last + 1, most}[g.Intn(5)]
				case 1, 2, 3:
					h = spoiled(g, h)
				default:
					w = spoiled(g, w)
				}
			}
			if !isContent(h, w, l) {
				wrong(t, h, w, l)
				refused++
				continue
			}
			x := &model{held: h, waits: w, last: l}
			o := loads(t, h, w, l)
			x.check(t, o)
			for range 3 {
				call(t, g, o, x)
				x.check(t, o)
			}
			loaded++
		}
	}
	if loaded < 5000 || refused < 20000 {
		t.Errorf("only %d were loaded, and %d refused", loaded, refused)
	}
}
