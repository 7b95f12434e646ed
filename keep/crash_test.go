package keep

import (
	"math/rand"
	"slices"
	"strings"
	"testing"

	"chatelaine/accept"
	"chatelaine/api"
	"chatelaine/code"
	"chatelaine/disk"
	"chatelaine/msg"
)

// model is what a store with two subtrees has, as the chapter describes it.
type model struct {
	acceptors [2]*accept.Acceptor
	texts     [2]string
}

// newModel returns the initial state.
func newModel(witness bool) model {
	return model{acceptors: [2]*accept.Acceptor{accept.New(witness), accept.New(witness)}}
}

// clone returns a copy.
func (x model) clone() model {
	for i, a := range x.acceptors {
		x.acceptors[i] = a.Clone()
	}
	return x
}

// state returns the state as bytes, as that of a store.
func (x model) state() string {
	var w code.Writer
	for i, a := range x.acceptors {
		a.Put(&w)
		w.S(x.texts[i])
	}
	return w.Text()
}

// step is a call of a store.
type step struct {
	call      byte // p, a, g, f or s: Prepare, Accept, Ask, Fold, Sync
	sub       int
	m         msg.Msg
	now, long int
	base      int
	text      string
}

// apply makes the call of the model.
func (x *model) apply(c step) msg.Msg {
	a := x.acceptors[c.sub]
	var reply msg.Msg
	switch c.call {
	case 'p':
		reply, _ = a.Prepare(c.m, c.now)
	case 'a':
		reply, _ = a.Accept(c.m)
	case 'g':
		reply, _ = a.Ask(c.m, c.now, c.long)
	case 'f':
		if a.Trim(c.base) && !a.Witness() {
			x.texts[c.sub] = c.text
		}
	}
	return reply
}

// make makes the call of a store.
func (c step) make(s *Store) (reply msg.Msg, e api.Errno) {
	switch c.call {
	case 'p':
		return s.Prepare(c.sub, c.m, c.now)
	case 'a':
		return s.Accept(c.sub, c.m)
	case 'g':
		return s.Ask(c.sub, c.m, c.now, c.long)
	case 'f':
		return msg.Msg{}, s.Fold(c.sub, c.base, c.text)
	}
	return msg.Msg{}, s.Sync()
}

// anyStep returns a call that often changes the model.
func anyStep(g *rand.Rand, x model) step {
	c := step{call: "ppaaaaaaggffsss"[g.Intn(15)], sub: g.Intn(2), now: g.Intn(100), long: g.Intn(30)}
	a := x.acceptors[c.sub]
	from := g.Intn(4)
	c.m = at(of(from, uint64(g.Intn(3))+a.Promised().C, from), a.Base()+g.Intn(9), strings.Repeat("t", g.Intn(9)))
	if c.m.Ballot.C == 0 {
		c.m.Ballot.N = 0
	}
	c.base, c.text = a.Base()+g.Intn(5)-1, strings.Repeat("i", g.Intn(20))
	return c
}

// P17.1: after any calls, a store has the acceptors of the model, also when it
// is opened again, and then after a crash what was synced.
func TestAnyCalls(t *testing.T) {
	g := rand.New(rand.NewSource(1))
	for i := range 300 {
		witness := i%3 == 0
		d := disk.New(1 << 20)
		s, x := open(t, d, witness), newModel(witness)
		for range 60 {
			c := anyStep(g, x)
			reply, e := c.make(s)
			if want := x.apply(c); e != api.OK || !msg.Same(reply, want) {
				t.Fatalf("%c: %v, %d, not %v", c.call, reply, e, want)
			}
			if got := state(t, s); got != x.state() {
				t.Fatalf("after %c: %x, not %x", c.call, got, x.state())
			}
			if g.Intn(8) == 0 {
				if witness || g.Intn(2) == 0 {
					ok(t, s.Sync())
					d.Crash()
				}
				s = open(t, d, witness)
			}
			if got := state(t, s); got != x.state() {
				t.Fatalf("when it is opened again: %x, not %x", got, x.state())
			}
		}
	}
}

// history is a state, and what may be there after a crash.
type history struct {
	model
	witness bool
	may     []string
}

// begin returns the history of a store that was opened with a state of which
// nothing can be lost any more.
func begin(x model, witness bool) history {
	return history{x, witness, []string{x.state()}}
}

// make makes a call, and returns the history after it.
func (h history) make(t *testing.T, s *Store, c step) (history, api.Errno) {
	t.Helper()
	next := h.clone()
	want := next.apply(c)
	reply, e := c.make(s)
	if e == api.OK && !msg.Same(reply, want) {
		t.Fatalf("%c: %v, not %v", c.call, reply, want)
	}
	changed := next.state() != h.state()
	switch {
	case e == api.OK && (c.call == 's' || c.call == 'f' && changed && !h.witness):
		h = begin(next, h.witness)
	case e == api.OK:
		h.model = next
		if !h.witness {
			h.may = append(slices.Clone(h.may), next.state())
		}
	case c.call == 's' || c.call == 'f':
		// A Sync or Fold that has failed may have stored everything all the same.
		h.may = append(slices.Clone(h.may), next.state())
	}
	return h, e
}

// left opens a store after a crash, and fails unless its state may be there.
func left(t *testing.T, d *disk.Disk, h history) *Store {
	t.Helper()
	s, e := Open(d, h.witness, 2)
	if e != api.OK || !slices.Contains(h.may, state(t, s)) {
		t.Fatalf("witness: %v: %v, %d; not one of %x", h.witness, s, e, h.may)
	}
	return s
}

// crashes calls use with a copy of the disk after each crash that may be, or
// after some of many.
func crashes(g *rand.Rand, d *disk.Disk, use func(d *disk.Disk)) {
	var files []int // how many choices there are at most, for each one that is not durable
	total := 1
	for f := range disk.Files {
		if s, _ := d.Read(f); !d.Sure(f) {
			files = append(files, len(s)+2)
			total *= len(s) + 2
		}
	}
	for i := range min(total, 300) {
		if total > 300 {
			i = g.Intn(total)
		}
		var choice []int
		for _, n := range files {
			choice = append(choice, i%n)
			i /= n
		}
		c := d.Clone()
		c.Crash(choice...)
		use(c)
	}
}

// P17.2: a crash at any call of the disk, with any choices, and another one
// while the store is opened; what is there then stays there.
func TestCrash(t *testing.T) {
	g := rand.New(rand.NewSource(2))
	for i := range 40 {
		witness := i%4 == 0
		seed := g.Int63()
		for n, done := 0, false; !done; n++ {
			// The same calls each time, of which another one is stopped.
			calls := rand.New(rand.NewSource(seed))
			d := disk.New(1 << 16)
			s, h, e := open(t, d, witness), begin(newModel(witness), witness), api.OK
			d.Fail(n)
			for range 12 {
				if h, e = h.make(t, s, anyStep(calls, h.model)); e != api.OK {
					break
				}
			}
			done = e == api.OK
			crashes(g, d, func(d *disk.Disk) { again(t, g, d, h) })
		}
	}
}

// again opens a store after a crash, and after another one at any call of the
// disk during that.
func again(t *testing.T, g *rand.Rand, d *disk.Disk, h history) {
	t.Helper()
	want := state(t, left(t, d.Clone(), h))
	d.Fail(g.Intn(12))
	if _, e := Open(d, h.witness, 2); e != api.OK && e != api.ErrIO {
		t.Fatalf("Open: %d", e)
	}
	d.Crash(g.Int(), g.Int(), g.Int())
	if got := state(t, left(t, d, h)); got != want {
		t.Fatalf("%x, not %x", got, want)
	}
	d.Crash()
	s := left(t, d, h)
	replies(t)(s.Prepare(0, of(1, 1<<40, 1), 1<<20))(msg.Promise, 1<<40, 1)
	ok(t, s.Sync())
	want = state(t, s)
	d.Crash()
	if got := state(t, open(t, d, h.witness)); got != want {
		t.Fatalf("%x, not %x", got, want)
	}
}

// P17.2: any sequence of calls, errors and crashes.
func TestAnySequence(t *testing.T) {
	g := rand.New(rand.NewSource(3))
	for i := range 1500 {
		witness := i%3 == 0
		d := disk.New(1 << 16)
		s, h := open(t, d, witness), begin(newModel(witness), witness)
		for range 6 {
			d.Fail(g.Intn(40))
			e := api.OK
			for range 12 {
				if h, e = h.make(t, s, anyStep(g, h.model)); e != api.OK {
					break
				}
			}
			d.Crash(g.Int(), g.Int(), g.Int())
			s = left(t, d, h)
			h = begin(stored(s), witness)
		}
	}
}

// stored returns the model of a store.
func stored(s *Store) model {
	var x model
	for sub := range x.acceptors {
		x.acceptors[sub] = s.Acceptor(sub)
		_, x.texts[sub] = s.Image(sub)
	}
	return x
}

// P6: a byte of a disk is altered after a crash: that is reported, or nothing
// is forgotten.
func TestOneAlteredByte(t *testing.T) {
	g := rand.New(rand.NewSource(4))
	for i := range 300 {
		witness := i%3 == 0
		d := disk.New(1 << 16)
		s, h, e := open(t, d, witness), begin(newModel(witness), witness), api.OK
		d.Fail(g.Intn(30))
		for range 10 {
			if h, e = h.make(t, s, anyStep(g, h.model)); e != api.OK {
				break
			}
		}
		d.Crash(g.Intn(3), g.Intn(3), g.Int())
		for f := range disk.Files {
			s, _ := d.Read(f)
			for at := range len(s) {
				c := d.Clone()
				c.Spoil(f, at, byte(1+g.Intn(255)))
				if s, e := Open(c.Clone(), witness, 2); e == api.ErrCorrupt && s == nil {
					refused(t, c, witness, 2, e)
					continue
				}
				left(t, c, h)
			}
		}
	}
}

// P6: a crash has left no byte of the second file of a witness's cell, and a
// byte of the first one is altered: what was synced before is not forgotten.
func TestAlteredHalf(t *testing.T) {
	d := disk.New(1 << 16)
	s := open(t, d, true)
	replies(t)(s.Prepare(0, of(1, 1, 1), 0))(msg.Promise, 1, 1)
	ok(t, s.Sync())
	replies(t)(s.Prepare(0, of(1, 2, 1), 0))(msg.Promise, 2, 1)
	d.Fail(3)
	if e := s.Sync(); e != api.ErrIO {
		t.Fatalf("Sync: %d", e)
	}
	d.Crash(1)
	first, _ := d.Read(0)
	if second, _ := d.Read(1); second != "" {
		t.Fatalf("the second file: %q", second)
	}
	if b := open(t, d.Clone(), true).Acceptor(0).Promised(); b != of(1, 2, 1).Ballot {
		t.Errorf("%v", b)
	}
	for at := range len(first) {
		for by := range 255 {
			c := d.Clone()
			c.Spoil(0, at, byte(by+1))
			refused(t, c, true, 2, api.ErrCorrupt)
		}
	}
}
