package table

import (
	"cmp"
	"maps"
	"math"
	"math/rand"
	"slices"
	"strings"
	"testing"

	"chatelaine/api"
	"chatelaine/locks"
	"chatelaine/path"
)

// seat is a session as the chapter describes it.
type seat struct {
	client, count int
	watches       map[string]bool
	events        []Event
	lost          bool
}

// answer is the last command of a client.
type answer struct {
	seq   int
	reply Reply
}

// model is a table as the chapter describes it; what becomes of the locks is
// found by comparing what the book holds before and afterwards.
type model struct {
	root  string
	last  int
	seats map[int]*seat
	book  *locks.Book
	told  map[int]answer
	calm  bool
}

// inRoot reports whether a path is at or below the root.
func (x *model) inRoot(p path.Path) bool {
	return x.root == "/" || p.Text() == x.root || strings.HasPrefix(p.Text(), x.root+"/")
}

// apply executes a command.
func (x *model) apply(c Cmd) Reply {
	if c.Kind == Expire {
		s := x.seats[c.Session]
		if s == nil {
			return Reply{Err: api.ErrSession}
		}
		if s.count != c.Count {
			return Reply{Err: api.ErrStale}
		}
		x.remove(c.Session)
		return Reply{}
	}
	a := x.told[c.Client]
	if c.Seq < a.seq {
		return Reply{Err: api.ErrStale}
	}
	if c.Seq > a.seq {
		a = answer{c.Seq, x.execute(c)}
		x.told[c.Client] = a
	}
	return a.reply
}

// errors returns the errors that apply to a command.
func (x *model) errors(c Cmd) []api.Errno {
	var l []api.Errno
	if c.Kind == Open {
		if len(x.seats) == 8 {
			l = append(l, api.ErrFull)
		}
		if x.last == 1<<40 {
			l = append(l, api.ErrExhausted)
		}
		return l
	}
	s := x.seats[c.Session]
	if s == nil || s.client != c.Client {
		l = append(l, api.ErrSession)
	}
	if (c.Kind == Acquire || c.Kind == Release || c.Kind == Watch) && !x.inRoot(c.Path) {
		l = append(l, api.ErrRoute)
	}
	if c.Kind == Watch && s != nil && !s.watches[c.Path.Text()] && len(s.watches) == 8 {
		l = append(l, api.ErrFull)
	}
	return l
}

// execute executes the next command of a client.
func (x *model) execute(c Cmd) Reply {
	if l := x.errors(c); len(l) > 0 {
		return Reply{Err: slices.Min(l)}
	}
	s := x.seats[c.Session]
	switch c.Kind {
	case Open:
		x.last++
		x.seats[x.last] = &seat{client: c.Client, watches: map[string]bool{}}
		return Reply{Session: x.last}
	case Close:
		x.remove(c.Session)
	case Keep:
		s.count++
		return Reply{Count: s.count}
	case Watch:
		s.watches[c.Path.Text()] = true
	case Drain:
		reply := Reply{Events: s.events, Lost: s.lost}
		s.events, s.lost = nil, false
		return reply
	}
	reply := Reply{}
	x.change(func(b *locks.Book) {
		switch c.Kind {
		case Acquire:
			var l locks.Lock
			l, reply.Place, reply.Err = b.Acquire(locks.Lock{Session: c.Session, Path: c.Path, Excl: c.Excl}, c.Wait)
			reply.Token = l.Token
		case Release:
			_, reply.Err = b.Release(c.Session, c.Path)
		}
	})
	return reply
}

// remove removes a session.
func (x *model) remove(n int) {
	delete(x.seats, n)
	x.change(func(b *locks.Book) { b.Drop(n) })
}

// change changes the book, and tells the sessions of it.
func (x *model) change(f func(b *locks.Book)) {
	before := x.book.Held()
	f(x.book)
	after := x.book.Held()
	gone := slices.DeleteFunc(slices.Clone(before), func(l locks.Lock) bool { return slices.Contains(after, l) })
	given := slices.DeleteFunc(slices.Clone(after), func(l locks.Lock) bool { return slices.Contains(before, l) })
	slices.SortFunc(given, func(a, b locks.Lock) int { return cmp.Compare(a.Token, b.Token) })
	for _, s := range x.seats {
		for _, l := range gone {
			s.hear(Event{2, l.Path, l.Session, l.Token})
		}
		for _, l := range given {
			s.hear(Event{1, l.Path, l.Session, l.Token})
		}
	}
}

func (s *seat) hear(e Event) {
	if !s.watches[e.Path.Text()] {
		return
	}
	if len(s.events) == 8 {
		s.lost = true
		return
	}
	s.events = append(slices.Clone(s.events), e)
}

// raw returns the fields of the bytes.
func (x *model) raw() raw {
	y := raw{root: x.root, token: x.book.Last(), last: x.last}
	for _, n := range slices.Sorted(maps.Keys(x.seats)) {
		s := x.seats[n]
		z := rawSession{number: n, client: s.client, count: s.count, events: rawEvents(s.events), lost: s.lost}
		for p := range s.watches {
			z.watches = append(z.watches, p)
		}
		slices.SortFunc(z.watches, func(a, b string) int {
			return slices.Compare(strings.Split(strings.Trim(a, "/"), "/"), strings.Split(strings.Trim(b, "/"), "/"))
		})
		y.sessions = append(y.sessions, z)
	}
	for _, l := range x.book.Held() {
		y.held = append(y.held, rawLock{l.Session, l.Path.Text(), l.Excl, l.Token})
	}
	for _, l := range x.book.Waits() {
		y.waits = append(y.waits, rawLock{l.Session, l.Path.Text(), l.Excl, 0})
	}
	for _, n := range slices.Sorted(maps.Keys(x.told)) {
		y.told = append(y.told, rawTold{n, x.told[n].seq, rawOf(x.told[n].reply)})
	}
	return y
}

// check fails unless the table has the state of the model.
func (x *model) check(t *testing.T, y *Table) {
	t.Helper()
	if got, want := put(y), x.raw().text(); got != want {
		t.Fatalf("%x, not %x", got, want)
	}
	numbers := y.Sessions()
	if !slices.Equal(numbers, slices.Sorted(maps.Keys(x.seats))) || y.Root().Text() != x.root {
		t.Fatalf("%v, %v; not %v", y.Root(), numbers, x.seats)
	}
	for n := range x.last + 2 {
		client, count, is := y.Session(n)
		if s := x.seats[n]; s != nil && (client != s.client || count != s.count) || is != (s != nil) {
			t.Fatalf("session %d: %d, %d, %v", n, client, count, is)
		}
		if n > 50 {
			break
		}
	}
	for client := range 8 {
		seq, reply := y.Told(client)
		if a := x.told[client]; a.seq != seq || !equal(reply, a.reply) {
			t.Fatalf("client %d: %d, %v; not %v", client, seq, reply, a)
		}
	}
	b := y.Book()
	if !slices.Equal(b.Held(), x.book.Held()) || !slices.Equal(b.Waits(), x.book.Waits()) || b.Last() != x.book.Last() {
		t.Fatalf("%v, not %v", b, x.book)
	}
}

// sound fails unless only sessions hold locks and wait for them, and no two held
// locks conflict.
func sound(t *testing.T, x *Table) {
	t.Helper()
	b := x.Book()
	held := b.Held()
	for _, l := range slices.Concat(held, b.Waits()) {
		if _, _, is := x.Session(l.Session); !is {
			t.Fatalf("P23.3: %v is not of a session", l)
		}
		if !x.Root().Over(l.Path) {
			t.Fatalf("P23.3: %v is not below %v", l, x.Root())
		}
	}
	for i, l := range held {
		for _, o := range held[:i] {
			if l.Session != o.Session && (l.Excl || o.Excl) && path.InLine(l.Path, o.Path) {
				t.Fatalf("P23.3: %v conflicts with %v", l, o)
			}
		}
		if l.Token == 0 || l.Token > b.Last() {
			t.Fatalf("P23.3: %v after %d", l, b.Last())
		}
	}
}

// increases fails unless the locks that were granted since before have tokens
// that are greater than the last one of that time.
func increases(t *testing.T, before, after *locks.Book) {
	t.Helper()
	if after.Last() < before.Last() {
		t.Fatalf("P23.3: %d after %d", after.Last(), before.Last())
	}
	old := before.Held()
	for _, l := range after.Held() {
		if !slices.Contains(old, l) && l.Token <= before.Last() {
			t.Fatalf("P23.3: %v after %d", l, before.Last())
		}
	}
}

// names are the texts of paths, most of them at or below the roots.
var names = []string{"/", "/a", "/a/b", "/a-b", "/a/b/c", "/b", "/b/c", "/b/c/d", "/b/c/d/e", "/c", "/a/c", "/a/d", "/a/e"}

// newModel returns an empty table and its model.
func newModel(t *testing.T, g *rand.Rand) (*Table, *model) {
	root := []string{"/", "/", "/a", "/b/c"}[g.Intn(4)]
	token := uint64(g.Intn(3))
	if g.Intn(5) == 0 {
		token = math.MaxUint64 - uint64(g.Intn(20))
	}
	y := New(at(t, root), token)
	x := &model{root: root, seats: map[int]*seat{}, book: locks.New(token), told: map[int]answer{}, calm: g.Intn(2) == 0}
	if g.Intn(10) == 0 {
		x.last = most - g.Intn(15)
		y.last = x.last
	}
	return y, x
}

// random returns a command that is often one of a session's client.
func random(t *testing.T, g *rand.Rand, x *model) Cmd {
	c := Cmd{Client: 1 + g.Intn(7), Session: max(x.last-g.Intn(14), 0), Excl: g.Intn(2) == 0, Wait: g.Intn(2) == 0, Count: g.Intn(2)}
	c.Kind = []int{Open, Open, Close, Keep, Acquire, Acquire, Acquire, Acquire, Release, Release, Watch, Watch, Watch, Drain, Expire}[g.Intn(15)]
	c.Path = at(t, names[g.Intn(len(names))])
	if len(x.seats) > 0 && g.Intn(4) > 0 {
		numbers := slices.Sorted(maps.Keys(x.seats))
		c.Session = numbers[g.Intn(len(numbers))]
	}
	// In half of the tables sessions last longer, and hear of more locks.
	if x.calm && g.Intn(4) > 0 {
		c.Path = at(t, map[string]string{"/": "/a", "/a": "/a/b", "/b/c": "/b/c"}[x.root])
	}
	if x.calm && (c.Kind <= Close || c.Kind >= Drain) && g.Intn(20) > 0 && len(x.seats) > 1 {
		c.Kind = Acquire
		if held := x.book.Held(); len(held) > 0 {
			l := held[g.Intn(len(held))]
			c.Kind, c.Session, c.Path = Release, l.Session, l.Path
		}
	}
	if s := x.seats[c.Session]; s != nil && g.Intn(8) > 0 {
		c.Client, c.Count = s.client, s.count
	}
	if c.Kind == Expire {
		c.Client = 0
		return c
	}
	c.Seq = x.told[c.Client].seq + 1
	if g.Intn(8) == 0 {
		c.Seq = max(c.Seq+g.Intn(5)-2, 1)
	}
	return c
}

// P23.1, P23.2, P23.3 and P23.4: after any commands, the table is the model, also
// when it is a copy, or was read from its bytes.
func TestAnyCommands(t *testing.T) {
	g := rand.New(rand.NewSource(1))
	told := map[api.Errno]int{}
	lost := 0
	for range 600 {
		y, x := newModel(t, g)
		for range 150 {
			c, before, old := random(t, g, x), put(y), y.Book()
			seq, last := y.Told(c.Client)
			got, want := y.Apply(c.Text()), x.apply(c)
			if !equal(got, want) {
				t.Fatalf("%v: %v, not %v", c, got, want)
			}
			if c.Seq > 0 && c.Seq <= seq && put(y) != before || c.Seq > 0 && c.Seq == seq && !equal(got, last) {
				t.Fatalf("P23.2: %v: %v after %v, %x after %x", c, got, last, put(y), before)
			}
			x.check(t, y)
			sound(t, y)
			increases(t, old, y.Book())
			told[got.Err]++
			if got.Lost {
				lost++
			}
			switch g.Intn(20) {
			case 0:
				y = y.Clone()
			case 1:
				y = get(t, put(y))
			}
			x.check(t, y)
		}
	}
	for _, e := range []api.Errno{api.OK, api.ErrRoute, api.ErrSession, api.ErrHeld, api.ErrFull, api.ErrStale, api.ErrExhausted, api.ErrNone} {
		if told[e] < 50 {
			t.Errorf("the error %d only %d times", e, told[e])
		}
	}
	if lost < 20 {
		t.Errorf("events were lost only %d times", lost)
	}
}

// P23.1: any strings are accepted; one that is not a command changes nothing.
func TestAnyStrings(t *testing.T) {
	g := rand.New(rand.NewSource(2))
	y, x := newModel(t, g)
	commands := 0
	for range 20000 {
		s := []byte(random(t, g, x).Text())
		for range g.Intn(3) {
			s[g.Intn(len(s))] = byte(g.Intn(256))
		}
		s = s[:len(s)-g.Intn(2)*g.Intn(2)*g.Intn(len(s))]
		before := put(y)
		got := y.Apply(string(s))
		var want Reply
		if c, e := Parse(string(s)); e == api.OK {
			want = x.apply(c)
			commands++
		} else if want.Err = e; len(s) == 0 {
			want.Err = api.OK
		} else if put(y) != before {
			t.Fatalf("%x: %x, not %x", s, put(y), before)
		}
		if !equal(got, want) {
			t.Fatalf("%x: %v, not %v", s, got, want)
		}
		x.check(t, y)
	}
	if commands < 5000 {
		t.Errorf("only %d commands", commands)
	}
}
