package keep

import (
	"math"
	"slices"
	"strings"
	"testing"

	"chatelaine/accept"
	"chatelaine/api"
	"chatelaine/ballot"
	"chatelaine/code"
	"chatelaine/disk"
	"chatelaine/msg"
	"chatelaine/twin"
	"chatelaine/wal"
)

// both is what a witness is, and what another node is.
var both = []bool{false, true}

// of returns a message from a node with a ballot.
func of(from int, c uint64, n int) msg.Msg {
	return msg.Msg{From: from, Ballot: ballot.Ballot{C: c, N: n}}
}

// at returns a message with a slot and a text.
func at(m msg.Msg, slot int, text string) msg.Msg {
	m.Slot, m.Text = slot, text
	return m
}

// entry returns an entry with a ballot.
func entry(slot int, c uint64, n int, text string) msg.Entry {
	return msg.Entry{Slot: slot, Ballot: ballot.Ballot{C: c, N: n}, Text: text}
}

// ok fails unless every error is OK.
func ok(t *testing.T, l ...api.Errno) {
	t.Helper()
	for i, e := range l {
		if e != api.OK {
			t.Fatalf("call %d of %d: %d", i+1, len(l), e)
		}
	}
}

// open opens a store with two subtrees.
func open(t *testing.T, d *disk.Disk, witness bool) *Store {
	t.Helper()
	s, e := Open(d, witness, 2)
	if s == nil || e != api.OK {
		t.Fatalf("%v, %d", s, e)
	}
	return s
}

// refused fails unless Open returns that error, and changes nothing.
func refused(t *testing.T, d *disk.Disk, witness bool, subs int, want api.Errno) {
	t.Helper()
	before := files(d)
	if s, e := Open(d, witness, subs); s != nil || e != want || files(d) != before {
		t.Fatalf("%v, %d; not %d; %q before, and now %q", s, e, want, before, files(d))
	}
}

// files returns what the files of a disk contain.
func files(d *disk.Disk) [disk.Files]string {
	var l [disk.Files]string
	for f := range l {
		l[f], _ = d.Read(f)
	}
	return l
}

// replies fails unless a call replies with this kind and ballot.
func replies(t *testing.T) func(m msg.Msg, e api.Errno) func(kind int, c uint64, n int) msg.Msg {
	t.Helper()
	return func(m msg.Msg, e api.Errno) func(kind int, c uint64, n int) msg.Msg {
		return func(kind int, c uint64, n int) msg.Msg {
			t.Helper()
			if e != api.OK || m.Kind != kind || m.Ballot != (ballot.Ballot{C: c, N: n}) {
				t.Fatalf("%v, %d", m, e)
			}
			return m
		}
	}
}

// fails fails unless a call returns the zero message and this error.
func fails(t *testing.T, want api.Errno) func(m msg.Msg, e api.Errno) {
	t.Helper()
	return func(m msg.Msg, e api.Errno) {
		t.Helper()
		if !msg.Same(m, msg.Msg{}) || e != want {
			t.Fatalf("%v, %d; not %d", m, e, want)
		}
	}
}

// put returns the bytes of an acceptor.
func put(a *accept.Acceptor) string {
	var w code.Writer
	a.Put(&w)
	return w.Text()
}

// state returns all that a store has of two subtrees.
func state(t *testing.T, s *Store) string {
	t.Helper()
	var w code.Writer
	for sub := range 2 {
		a := s.Acceptor(sub)
		slot, text := s.Image(sub)
		if slot != a.Base() {
			t.Fatalf("subtree %d: the slot of the image is %d, and the base %d", sub, slot, a.Base())
		}
		a.Put(&w)
		w.S(text)
	}
	return w.Text()
}

// image fails unless a subtree has this image.
func image(t *testing.T, s *Store, sub, slot int, text string) {
	t.Helper()
	if n, got := s.Image(sub); n != slot || got != text {
		t.Fatalf("subtree %d: %d, %q; not %d, %q", sub, n, got, slot, text)
	}
}

// P17.1, P17.2: the example.
func TestExample(t *testing.T) {
	for _, witness := range both {
		d := disk.New(1000)
		s := open(t, d, witness)
		replies(t)(s.Prepare(0, of(0, 1, 0), 0))(msg.Promise, 1, 0)
		d.Crash()
		s = open(t, d, witness)
		if b := s.Acceptor(0).Promised(); !b.None() {
			t.Errorf("witness: %v: %v", witness, b)
		}
		replies(t)(s.Prepare(0, of(0, 1, 0), 0))(msg.Promise, 1, 0)
		ok(t, s.Sync())
		d.Crash()
		s = open(t, d, witness)
		if b := s.Acceptor(0).Promised(); b != (ballot.Ballot{C: 1}) {
			t.Errorf("witness: %v: %v", witness, b)
		}
	}
}

// P17.1: the initial state, for each number of subtrees.
func TestOpen(t *testing.T) {
	for _, witness := range both {
		for _, subs := range []int{0, -1, 5, math.MinInt, math.MaxInt} {
			refused(t, disk.New(1000), witness, subs, api.ErrInval)
		}
		for subs := 1; subs <= 4; subs++ {
			d := disk.New(0)
			s, e := Open(d, witness, subs)
			ok(t, e)
			for sub := range subs {
				if a := s.Acceptor(sub); a == nil || put(a) != put(accept.New(witness)) || a.Witness() != witness {
					t.Errorf("subtree %d of %d: %v", sub, subs, a)
				}
				image(t, s, sub, 0, "")
			}
			ok(t, s.Sync())
			if d.Used() != 0 {
				t.Errorf("%d bytes", d.Used())
			}
		}
	}
}

// P17.1: there are no other subtrees than these.
func TestNoSubtree(t *testing.T) {
	for _, witness := range both {
		d := disk.New(1000)
		s := open(t, d, witness)
		d.Fail(0)
		for _, sub := range []int{-1, 2, 3, 4, math.MinInt, math.MaxInt} {
			fails(t, api.ErrInval)(s.Prepare(sub, of(0, 1, 0), 0))
			fails(t, api.ErrInval)(s.Accept(sub, at(of(0, 1, 0), 1, "x")))
			fails(t, api.ErrInval)(s.Ask(sub, of(0, 1, 0), 0, 1))
			for _, base := range []int{-1, 0, 1, math.MaxInt} {
				if e := s.Fold(sub, base, strings.Repeat("x", 1<<17+1)); e != api.ErrInval {
					t.Errorf("Fold of %d: %d", sub, e)
				}
			}
			if a := s.Acceptor(sub); a != nil {
				t.Errorf("%v", a)
			}
			image(t, s, sub, 0, "")
		}
		ok(t, s.Sync())
	}
}

// P17.1: each subtree has a state of its own, which Open finds.
func TestSubtrees(t *testing.T) {
	is := replies(t)
	for _, witness := range both {
		d := disk.New(1 << 16)
		s, e := Open(d, witness, 4)
		ok(t, e)
		for sub := range 4 {
			c := uint64(sub + 1)
			is(s.Accept(sub, at(of(sub, c, sub), 10+sub, "text")))(msg.Accepted, c, sub)
			is(s.Prepare(sub, of(sub, c+1, sub), 0))(msg.Promise, c+1, sub)
			is(s.Ask(sub, of(sub, c+2, sub), sub, 7))(msg.Grant, c+2, sub)
		}
		ok(t, s.Fold(2, 5, "image"), s.Sync())
		d.Crash()
		s, e = Open(d, witness, 4)
		ok(t, e)
		for sub := range 4 {
			a := s.Acceptor(sub)
			node, end := a.Holder()
			text := "text"
			if witness {
				text = accept.Digest(text)
			}
			if a.Promised() != (ballot.Ballot{C: uint64(sub + 3), N: sub}) || node != sub || end != sub+7 ||
				!slices.Equal(a.List(), []msg.Entry{entry(10+sub, uint64(sub+1), sub, text)}) {
				t.Errorf("subtree %d: %v", sub, a)
			}
			if sub != 2 {
				image(t, s, sub, 0, "")
			}
		}
		if witness {
			image(t, s, 2, 5, "")
		} else {
			image(t, s, 2, 5, "image")
		}
	}
}

// P17.1: a reply to a refused message, and one that changes nothing, needs no
// disk.
func TestUnchanged(t *testing.T) {
	is := replies(t)
	for _, witness := range both {
		d := disk.New(1 << 16)
		s := open(t, d, witness)
		is(s.Accept(0, at(of(1, 2, 1), 1, "x")))(msg.Accepted, 2, 1)
		is(s.Ask(0, of(1, 2, 1), 0, 10))(msg.Grant, 2, 1)
		for slot := range 63 {
			is(s.Accept(0, at(of(1, 2, 1), 2+slot, "y")))(msg.Accepted, 2, 1)
		}
		ok(t, s.Sync())
		d.Fail(0)
		before := *d
		is(s.Prepare(0, of(1, 2, 1), 0))(msg.Promise, 2, 1)
		is(s.Prepare(0, of(0, 1, 0), 0))(msg.Refuse, 2, 1)
		if m := is(s.Prepare(0, of(2, 3, 2), 4))(msg.Refuse, 2, 1); m.Time != 6 {
			t.Errorf("%v", m)
		}
		is(s.Accept(0, at(of(1, 2, 1), 1, "x")))(msg.Accepted, 2, 1)
		is(s.Accept(0, at(of(1, 1, 1), 1, "z")))(msg.Refuse, 2, 1)
		fails(t, api.OK)(s.Accept(0, at(of(1, 3, 1), 65, "full")))
		is(s.Ask(0, of(1, 2, 1), 0, 9))(msg.Grant, 2, 1)
		is(s.Ask(0, of(0, 1, 0), 0, 9))(msg.Refuse, 2, 1)
		is(s.Ask(0, of(2, 3, 2), 0, 9))(msg.Refuse, 2, 1)
		ok(t, s.Fold(0, 0, "image"), s.Fold(0, -1, "image"), s.Fold(1, math.MinInt, "image"), s.Sync())
		image(t, s, 0, 0, "")
		if *d != before {
			t.Errorf("witness: %v: the disk has changed", witness)
		}
	}
}

// P17.1: the ErrFull of a call changes nothing, and the store is still used.
func TestNoRoom(t *testing.T) {
	is := replies(t)
	d := disk.New(200)
	s := open(t, d, false)
	is(s.Accept(0, at(of(1, 2, 1), 1, "x")))(msg.Accepted, 2, 1)
	long := strings.Repeat("x", 200)
	before := state(t, s)
	fails(t, api.ErrFull)(s.Accept(0, at(of(1, 3, 1), 2, long)))
	fails(t, api.ErrFull)(s.Accept(0, at(of(1, 2, 1), 1, long)))
	if state(t, s) != before {
		t.Errorf("%x, not %x", state(t, s), before)
	}
	is(s.Prepare(0, of(1, 3, 1), 0))(msg.Promise, 3, 1)
	is(s.Ask(1, of(1, 3, 1), 0, 5))(msg.Grant, 3, 1)
	ok(t, s.Sync())
	before = state(t, s)
	d.Crash()
	if got := state(t, open(t, d, false)); got != before {
		t.Errorf("%x, not %x", got, before)
	}

	ok(t, d.Append(1, strings.Repeat("x", 200-d.Used())))
	fails(t, api.ErrFull)(s.Prepare(0, of(1, 4, 1), 0))
	fails(t, api.ErrFull)(s.Accept(0, at(of(1, 4, 1), 1, "")))
	fails(t, api.ErrFull)(s.Ask(0, of(1, 4, 1), 0, 9))
	if state(t, s) != before {
		t.Errorf("%x, not %x", state(t, s), before)
	}
	// Nothing was appended.
	ok(t, s.Sync())
	ok(t, d.Put(1, ""))
	if got := state(t, open(t, d, false)); got != before {
		t.Errorf("%x, not %x", got, before)
	}
}

// P17.1: another error of the disk changes nothing either, but then the store
// must be opened again.
func TestErrorsOfTheDisk(t *testing.T) {
	is := replies(t)
	calls := []func(s *Store) (msg.Msg, api.Errno){
		func(s *Store) (msg.Msg, api.Errno) { return s.Prepare(0, of(2, 5, 2), 9) },
		func(s *Store) (msg.Msg, api.Errno) { return s.Accept(0, at(of(2, 5, 2), 1, "y")) },
		func(s *Store) (msg.Msg, api.Errno) { return s.Ask(0, of(2, 5, 2), 9, 9) },
		func(s *Store) (msg.Msg, api.Errno) { return msg.Msg{}, s.Fold(0, 1, "image") },
	}
	for i, call := range calls {
		d := disk.New(1 << 16)
		s := open(t, d, false)
		is(s.Accept(0, at(of(1, 2, 1), 1, "x")))(msg.Accepted, 2, 1)
		before := state(t, s)
		d.Fail(0)
		fails(t, api.ErrIO)(call(s))
		if state(t, s) != before || state(t, open(t, d, false)) != before {
			t.Errorf("call %d: %x, not %x", i, state(t, s), before)
		}
		d = disk.New(1 << 16)
		s = open(t, d, true)
		is(s.Accept(0, at(of(1, 2, 1), 1, "x")))(msg.Accepted, 2, 1)
		d.Fail(0)
		if _, e := call(s); e != api.OK {
			t.Errorf("call %d of a witness: %d", i, e)
		}
		if e := s.Sync(); e != api.ErrIO {
			t.Errorf("Sync of a witness: %d", e)
		}
	}
	d := disk.New(1 << 16)
	s := open(t, d, false)
	is(s.Accept(0, at(of(1, 2, 1), 1, "x")))(msg.Accepted, 2, 1)
	d.Fail(0)
	if e := s.Sync(); e != api.ErrIO {
		t.Errorf("Sync: %d", e)
	}
	if e := open(t, disk.New(10), false).Fold(0, 1, "image"); e != api.ErrFull {
		t.Errorf("Fold: %d", e)
	}
	s = open(t, disk.New(10), true)
	ok(t, s.Fold(0, 1, "image"))
	if e := s.Sync(); e != api.ErrFull {
		t.Errorf("Sync of a witness: %d", e)
	}
	image(t, s, 0, 1, "")
}

// P17.1: the errors of layers 12 and 13.
func TestErrorsOfOpen(t *testing.T) {
	for _, witness := range both {
		d := disk.New(1 << 16)
		s := open(t, d, witness)
		replies(t)(s.Accept(0, at(of(1, 2, 1), 1, "x")))(msg.Accepted, 2, 1)
		ok(t, s.Sync())
		before := state(t, s)
		first := 2
		if witness {
			first = 0
		}
		ok(t, d.Put(first+1, ""), d.Sync(first+1))
		// The second file of the cell is rewritten.
		d.Fail(0)
		refused(t, d, witness, 2, api.ErrIO)
		if got := state(t, open(t, d, witness)); got != before {
			t.Errorf("%x, not %x", got, before)
		}
		d.Fail(0)
		refused(t, d, witness, 5, api.ErrInval)
		d.Fail(-1)
		d.Spoil(first, 5, 1)
		d.Spoil(first+1, 5, 1)
		refused(t, d, witness, 2, api.ErrCorrupt)
		d.Spoil(first, 5, 1)
		if got := state(t, open(t, d, witness)); d.Used() == 0 || got != before {
			t.Errorf("%x, not %x", got, before)
		}
	}
	d := disk.New(20)
	ok(t, d.Append(0, "torn"), d.Sync(0))
	if s, e := Open(d, false, 1); s != nil || e != api.ErrFull {
		t.Errorf("%v, %d", s, e)
	}
}

// P17.1: Fold sets the image, and trims the acceptor.
func TestFold(t *testing.T) {
	is := replies(t)
	for _, witness := range both {
		d := disk.New(1 << 20)
		s := open(t, d, witness)
		for _, slot := range []int{1, 2, 4} {
			is(s.Accept(0, at(of(1, 2, 1), slot, "x")))(msg.Accepted, 2, 1)
		}
		text := strings.Repeat("i", 1<<17)
		for _, c := range []struct {
			base, after int
			text        string
			entries     int
		}{
			{0, 0, "", 3}, {1, 1, "one", 2}, {1, 1, "two", 2}, {0, 1, "two", 2}, {-5, 1, "", 2}, {3, 3, "", 1}, {4, 4, text, 0}, {3, 4, text[1:], 0}, {api.MaxSlot, api.MaxSlot, "last", 0},
		} {
			was, before := s.Image(0)
			ok(t, s.Fold(0, c.base, c.text))
			want := c.text
			if c.base <= was {
				want = before
			}
			if witness {
				want = ""
			}
			image(t, s, 0, c.after, want)
			if a := s.Acceptor(0); a.Base() != c.after || len(a.List()) != c.entries {
				t.Fatalf("after Fold to %d: %v", c.base, a)
			}
			ok(t, s.Sync())
			c := d.Clone()
			c.Crash()
			if got := state(t, open(t, c, witness)); got != state(t, s) {
				t.Fatalf("%x, not %x", got, state(t, s))
			}
		}
		image(t, s, 1, 0, "")
	}
}

// P17.1: the errors of Fold, in their order; it then changes nothing.
func TestErrorsOfFold(t *testing.T) {
	long := strings.Repeat("x", 1<<17+1)
	for _, witness := range both {
		d := disk.New(1 << 20)
		s := open(t, d, witness)
		ok(t, s.Fold(0, 7, "image"), s.Sync())
		before := state(t, s)
		d.Fail(0)
		for _, c := range []struct {
			sub, base int
			text      string
			want      api.Errno
		}{
			{2, api.MaxSlot + 1, long, api.ErrInval}, {-1, 8, "x", api.ErrInval},
			{0, api.MaxSlot + 1, long, api.ErrRange}, {1, math.MaxInt, "x", api.ErrRange},
			{0, api.MaxSlot, long, api.ErrBig}, {0, 8, long, api.ErrBig}, {0, 7, long, api.ErrBig}, {1, -1, long, api.ErrBig},
		} {
			if e := s.Fold(c.sub, c.base, c.text); e != c.want || state(t, s) != before {
				t.Errorf("Fold(%d, %d, %d bytes): %d, not %d", c.sub, c.base, len(c.text), e, c.want)
			}
		}
		ok(t, s.Sync())
		if got := state(t, open(t, d, witness)); got != before {
			t.Errorf("%x, not %x", got, before)
		}
	}
}

// P17.1: a witness stores everything at the next Sync, and only if something
// has changed since the last one.
func TestSyncOfAWitness(t *testing.T) {
	is := replies(t)
	d := disk.New(1 << 16)
	s := open(t, d, true)
	version := func(want uint64) {
		t.Helper()
		if c, _, e := twin.Open(d.Clone(), 0); e != api.OK || c.Version() != want {
			t.Fatalf("%d, version %d, not %d", e, c.Version(), want)
		}
	}
	ok(t, s.Sync())
	version(0)
	is(s.Prepare(1, of(1, 2, 1), 0))(msg.Promise, 2, 1)
	is(s.Accept(0, at(of(1, 2, 1), 3, "x")))(msg.Accepted, 2, 1)
	version(0)
	ok(t, s.Sync(), s.Sync())
	version(1)
	is(s.Ask(0, of(1, 2, 1), 0, 5))(msg.Grant, 2, 1)
	is(s.Ask(0, of(1, 2, 1), 0, 5))(msg.Grant, 2, 1)
	version(1)
	ok(t, s.Sync(), s.Sync())
	version(2)
	ok(t, s.Fold(0, 3, "image"), s.Fold(0, 3, "image"))
	version(2)
	before := state(t, s)
	ok(t, s.Sync(), s.Sync())
	version(3)
	s = open(t, d, true)
	ok(t, s.Sync())
	version(3)
	if state(t, s) != before {
		t.Errorf("%x, not %x", state(t, s), before)
	}
}

// P17.1: a text that is longer than that of a command is found as well; one
// that does not fit into a record is refused.
func TestLongTexts(t *testing.T) {
	is := replies(t)
	d := disk.New(1 << 21)
	s := open(t, d, false)
	long := strings.Repeat("\xff", api.MaxImage)
	is(s.Accept(0, at(of(1, 1, 1), api.MaxSlot, long)))(msg.Accepted, 1, 1)
	is(s.Accept(0, at(of(1, 2, 1), 7, long[:api.MaxValue+1])))(msg.Accepted, 2, 1)
	before := state(t, s)
	fails(t, api.ErrBig)(s.Accept(1, at(of(1, 1, 1), 1, strings.Repeat("x", wal.MaxRecord))))
	for range 2 {
		if state(t, s) != before {
			t.Errorf("the state is another one")
		}
		ok(t, s.Fold(0, s.Acceptor(0).Base()+1, long))
		before = state(t, s)
		d.Crash()
		s = open(t, d, false)
	}
}

// Rule 1: the store that Open returns with an error has nothing, and cannot be
// changed.
func TestNoStore(t *testing.T) {
	s, _ := Open(disk.New(1000), false, 0)
	fails(t, api.ErrInval)(s.Prepare(0, of(0, 1, 0), 0))
	fails(t, api.ErrInval)(s.Accept(0, of(0, 1, 0)))
	fails(t, api.ErrInval)(s.Ask(0, of(0, 1, 0), 0, 1))
	if s.Sync() != api.ErrInval || s.Fold(0, 1, "") != api.ErrInval || s.Acceptor(0) != nil {
		t.Errorf("not refused")
	}
	image(t, s, 0, 0, "")
}

// Rule 1: any numbers are accepted.
func TestAnyNumbers(t *testing.T) {
	for _, n := range []int{-1, math.MinInt, math.MaxInt, math.MaxInt - 1} {
		for _, witness := range both {
			d := disk.New(1 << 16)
			s := open(t, d, witness)
			m := at(msg.Msg{Kind: n, From: n, To: n, Sub: n, Time: n, Ballot: ballot.Ballot{C: 1, N: n}}, n, "x")
			s.Ask(0, m, n, n)
			s.Prepare(0, m, n)
			s.Accept(0, m)
			s.Ask(0, m, 0, n)
			s.Fold(0, n, "x")
			s.Sync()
			Open(d, witness, 2)
		}
	}
}

// Rule 5: acceptors and replies are copies, and messages are neither changed
// nor kept.
func TestMemory(t *testing.T) {
	is := replies(t)
	for _, witness := range both {
		s := open(t, disk.New(1<<16), witness)
		m := at(of(1, 2, 1), 1, "x")
		m.List = []msg.Entry{entry(1, 1, 1, "?"), entry(2, 1, 1, "?")}[:1]
		given := slices.Clone(m.List[:2])
		is(s.Accept(0, m))(msg.Accepted, 2, 1)
		reply := is(s.Prepare(0, m, 0))(msg.Promise, 2, 1)
		is(s.Ask(0, m, 0, 5))(msg.Grant, 2, 1)
		if !slices.Equal(m.List[:2], given) {
			t.Errorf("an argument was changed: %v", m.List[:2])
		}
		before := state(t, s)
		reply.List[0] = entry(9, 9, 9, "?")
		a := s.Acceptor(0)
		a.Accept(at(of(1, 3, 1), 1, "y"))
		a.Ask(of(1, 4, 1), 0, 50)
		a.Trim(1)
		if state(t, s) != before {
			t.Errorf("%x, not %x", state(t, s), before)
		}
		a = s.Acceptor(0)
		bytes := put(a)
		is(s.Accept(0, at(of(1, 5, 1), 1, "z")))(msg.Accepted, 5, 1)
		ok(t, s.Fold(0, 1, "image"))
		if put(a) != bytes {
			t.Errorf("%x, not %x", put(a), bytes)
		}
	}
}
