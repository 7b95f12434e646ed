package disk

import (
	"math"
	"math/rand"
	"slices"
	"strings"
	"testing"

	"chatelaine/api"
)

// noFiles returns numbers that are not files.
func noFiles() []int {
	return []int{-1, -4, 4, 5, 64, 1 << 32, math.MinInt, math.MaxInt}
}

// ok fails unless every error is OK.
func ok(t *testing.T, l ...api.Errno) {
	t.Helper()
	for i, e := range l {
		if e != api.OK {
			t.Fatalf("call %d of %d: %d", i+1, len(l), e)
		}
	}
}

// is fails unless a file has this current content, which is durable or not.
func is(t *testing.T, d *Disk, f int, want string, sure bool) {
	t.Helper()
	if s, e := d.Read(f); s != want || e != api.OK || d.Sure(f) != sure {
		t.Errorf("file %d: %q, %d, durable: %v; not %q, %v", f, s, e, d.Sure(f), want, sure)
	}
}

// appended returns a disk whose file f has the durable content ab, and cde
// after it.
func appended(t *testing.T, f int) *Disk {
	t.Helper()
	d := New(100)
	ok(t, d.Append(f, "ab"), d.Sync(f), d.Append(f, "c"), d.Append(f, "de"))
	return d
}

// put returns a disk whose file f has the durable content ab and the current
// content xyz.
func put(t *testing.T, f int) *Disk {
	t.Helper()
	d := New(100)
	ok(t, d.Append(f, "ab"), d.Sync(f), d.Put(f, "xy"), d.Append(f, "z"))
	return d
}

// afterAppend and afterPut are what remains of the file of appended and of put
// after a crash, by choice.
func afterAppend() []string { return []string{"ab", "abc", "abcd", "abcde"} }
func afterPut() []string    { return []string{"ab", "", "x", "xy", "xyz"} }

// P11.1: the example.
func TestExample(t *testing.T) {
	d := New(10)
	ok(t, d.Append(0, "ab"), d.Sync(0), d.Append(0, "cd"))
	d.Crash(1)
	is(t, d, 0, "abc", true)
	ok(t, d.Put(0, "xy"))
	d.Crash(2)
	is(t, d, 0, "x", true)
}

// P11.1: an empty disk.
func TestNew(t *testing.T) {
	if Files != 4 {
		t.Errorf("%d files", Files)
	}
	for _, room := range []int{0, 1, 100, -1, math.MinInt, math.MaxInt} {
		d := New(room)
		for f := range Files {
			is(t, d, f, "", true)
		}
		if d.Used() != 0 {
			t.Errorf("room %d: %d bytes are occupied", room, d.Used())
		}
	}
}

// P11.1: the calls of a file that does not exist; they come before every other
// error, and they do not count for Fail.
func TestNoFile(t *testing.T) {
	d := New(2)
	ok(t, d.Append(3, "ab"), d.Sync(3))
	d.Fail(0)
	before := *d
	for _, f := range noFiles() {
		for i, e := range []api.Errno{d.Append(f, ""), d.Append(f, "x"), d.Put(f, ""), d.Put(f, "x"), d.Sync(f)} {
			if e != api.ErrInval {
				t.Errorf("file %d, call %d: %d", f, i, e)
			}
		}
		if s, e := d.Read(f); s != "" || e != api.ErrInval {
			t.Errorf("Read of file %d: %q, %d", f, s, e)
		}
		if d.Sure(f) || d.Spoil(f, 0, 1) {
			t.Errorf("there is a file %d", f)
		}
	}
	if *d != before {
		t.Errorf("the disk has changed")
	}
	if e := d.Append(3, ""); e != api.ErrIO {
		t.Errorf("the call that fails: %d", e)
	}
}

// P11.1: Append, Put and Sync of each file; the other files do not change.
func TestFilesAreIndependent(t *testing.T) {
	for f := range Files {
		d := New(100)
		var want [Files]string
		for i := range Files {
			want[i] = strings.Repeat("o", i)
			ok(t, d.Append(i, want[i]), d.Sync(i))
		}
		ok(t, d.Append(f, "a"))
		is(t, d, f, want[f]+"a", false)
		ok(t, d.Append(f, "\x00\xff"), d.Append(f, ""))
		is(t, d, f, want[f]+"a\x00\xff", false)
		ok(t, d.Sync(f))
		is(t, d, f, want[f]+"a\x00\xff", true)
		ok(t, d.Put(f, "new"))
		is(t, d, f, "new", false)
		ok(t, d.Sync(f), d.Sync(f))
		is(t, d, f, "new", true)
		ok(t, d.Put(f, ""))
		is(t, d, f, "", false)
		for i := range Files {
			if i != f {
				is(t, d, i, want[i], true)
			}
		}
	}
}

// P11.1: Sure compares the contents, however they came about.
func TestSure(t *testing.T) {
	d := New(100)
	ok(t, d.Append(1, ""), d.Put(2, ""))
	is(t, d, 1, "", true)
	is(t, d, 2, "", true)
	ok(t, d.Append(1, "ab"), d.Sync(1), d.Append(1, "c"))
	is(t, d, 1, "abc", false)
	ok(t, d.Put(1, "ab"))
	is(t, d, 1, "ab", true)
	ok(t, d.Put(1, "a"))
	is(t, d, 1, "a", false)
	ok(t, d.Append(1, "b"))
	is(t, d, 1, "ab", true)
}

// P11.1: a file occupies as many bytes as the longer one of its contents.
func TestUsed(t *testing.T) {
	d := New(100)
	for i, c := range []struct {
		e         api.Errno
		got, want int
	}{
		{d.Append(0, "abc"), d.Used(), 3},
		{d.Sync(0), d.Used(), 3},
		{d.Append(0, "de"), d.Used(), 5},
		{d.Put(0, "x"), d.Used(), 3},
		{d.Append(3, "123456"), d.Used(), 9},
		{d.Sync(0), d.Used(), 7},
		{d.Put(3, "12"), d.Used(), 3},
		{d.Sync(3), d.Used(), 3},
		{d.Put(0, ""), d.Used(), 3},
		{d.Sync(0), d.Used(), 2},
	} {
		ok(t, c.e)
		if c.got != c.want {
			t.Errorf("after call %d: %d, not %d", i+1, c.got, c.want)
		}
	}
	d = put(t, 1)
	d.Crash(1)
	if d.Used() != 0 {
		t.Errorf("after a crash: %d", d.Used())
	}
}

// full fails unless the call returns ErrFull and changes nothing.
func full(t *testing.T, d *Disk, call func() api.Errno) {
	t.Helper()
	before := *d
	if e := call(); e != api.ErrFull || *d != before {
		t.Errorf("%d, and the disk has changed: %v", e, *d != before)
	}
}

// P11.1: the room is that of all files together, of both of their contents.
func TestFull(t *testing.T) {
	d := New(10)
	ok(t, d.Append(0, "abcd"), d.Sync(0), d.Append(1, "efg"))
	full(t, d, func() api.Errno { return d.Append(2, "hijk") })
	full(t, d, func() api.Errno { return d.Append(0, "hijk") })
	full(t, d, func() api.Errno { return d.Put(0, "abcdefgh") })
	full(t, d, func() api.Errno { return d.Put(3, "hijk") })
	ok(t, d.Put(0, "abcdefg"), d.Append(2, ""), d.Put(3, ""))
	full(t, d, func() api.Errno { return d.Append(0, "h") })
	full(t, d, func() api.Errno { return d.Append(1, "h") })
	// The durable content still occupies its four bytes.
	ok(t, d.Put(0, "x"), d.Append(3, "hij"))
	full(t, d, func() api.Errno { return d.Append(3, "k") })
	ok(t, d.Append(0, "bcd"))
	full(t, d, func() api.Errno { return d.Append(0, "e") })
	ok(t, d.Put(0, ""), d.Sync(0), d.Append(3, "klmn"), d.Sync(1), d.Sync(3))
	is(t, d, 3, "hijklmn", true)
	full(t, d, func() api.Errno { return d.Put(0, "a") })
}

// P11.1: without room there are no bytes, and that is the case for a negative
// room.
func TestNoRoom(t *testing.T) {
	for _, room := range []int{0, -1, math.MinInt} {
		d := New(room)
		for f := range Files {
			full(t, d, func() api.Errno { return d.Append(f, "a") })
			full(t, d, func() api.Errno { return d.Put(f, "a") })
			ok(t, d.Append(f, ""), d.Put(f, ""), d.Sync(f))
		}
	}
}

// P11.1: a Put that returned an error was none.
func TestPutWithoutEffect(t *testing.T) {
	for c, want := range afterAppend() {
		d := appended(t, 0)
		full(t, d, func() api.Errno { return d.Put(0, strings.Repeat("x", 101)) })
		d.Fail(0)
		if e := d.Put(0, "x"); e != api.ErrIO {
			t.Errorf("the Put that fails: %d", e)
		}
		d.Crash(c)
		is(t, d, 0, want, true)
	}
}

// tries returns calls of each method that changes a file, with and without
// room for them.
func tries(d *Disk) []func() api.Errno {
	return []func() api.Errno{
		func() api.Errno { return d.Append(0, "a") },
		func() api.Errno { return d.Put(1, "b") },
		func() api.Errno { return d.Sync(0) },
		func() api.Errno { return d.Append(2, strings.Repeat("c", 101)) },
		func() api.Errno { return d.Put(3, strings.Repeat("c", 101)) },
	}
}

// P11.1: the call after n others fails, whichever it is, and nothing happens;
// those that return ErrFull count, and ErrIO comes before it.
func TestFail(t *testing.T) {
	usual := []api.Errno{api.OK, api.OK, api.OK, api.ErrFull, api.ErrFull}
	for n := range 12 {
		for start := range usual {
			d := New(100)
			d.Fail(n)
			for i := range 24 {
				k := (start + i) % len(usual)
				want := usual[k]
				if i == n {
					want = api.ErrIO
				}
				before := d.files
				// Calls that do not count.
				d.Read(0)
				d.Sure(0)
				d.Used()
				d.Sync(4)
				if e := tries(d)[k](); e != want {
					t.Fatalf("Fail(%d), call %d: %d, not %d", n, i, e, want)
				}
				if want != api.OK && d.files != before {
					t.Fatalf("Fail(%d), call %d: the files have changed", n, i)
				}
			}
		}
	}
}

// P11.1: the last Fail counts; with a negative number no call fails.
func TestFailAgain(t *testing.T) {
	d := New(100)
	d.Fail(0)
	d.Fail(1)
	ok(t, d.Sync(0))
	d.Fail(2)
	ok(t, d.Sync(0), d.Sync(0))
	if e := d.Sync(0); e != api.ErrIO {
		t.Errorf("the third call: %d", e)
	}
	for _, n := range []int{-1, -2, math.MinInt} {
		d.Fail(0)
		d.Fail(n)
		ok(t, d.Sync(0), d.Sync(0), d.Sync(0))
	}
}

// P11.1: more than 2^30 calls count as 2^30, which is the least number of that
// kind.
func TestFailMuchLater(t *testing.T) {
	most := New(100)
	most.Fail(1 << 30)
	for _, n := range []int{1<<30 + 1, 1 << 31, 1 << 32, math.MaxInt - 1, math.MaxInt} {
		d := New(100)
		d.Fail(n)
		if *d != *most {
			t.Errorf("Fail(%d) differs from Fail(2^30)", n)
		}
		ok(t, d.Sync(0), d.Sync(0))
	}
	d := New(100)
	d.Fail(1<<30 - 1)
	ok(t, most.Sync(0))
	if *d != *most {
		t.Errorf("Fail(2^30) and a call differ from Fail(2^30 - 1)")
	}
}

// P11.1: what remains by each choice, of appended bytes and after a Put.
func TestCrash(t *testing.T) {
	for f := range Files {
		for c, want := range afterAppend() {
			d := appended(t, f)
			d.Crash(c)
			is(t, d, f, want, true)
		}
		for c, want := range afterPut() {
			d := put(t, f)
			d.Crash(c)
			is(t, d, f, want, true)
		}
	}
}

// P11.1: choices are reduced modulo the number of possibilities.
func TestChoicesAreReduced(t *testing.T) {
	for _, c := range []int{4, 5, 7, 8, 1000003, -1, -2, -4, -5, -7, math.MinInt, math.MinInt + 1, math.MaxInt, math.MaxInt - 1} {
		d, l := appended(t, 0), afterAppend()
		d.Crash(c)
		is(t, d, 0, l[uint64(c)%4], true)

		d, l = put(t, 0), afterPut()
		d.Crash(c)
		least := c % 5
		if least < 0 {
			least += 5
		}
		is(t, d, 0, l[least], true)
	}
}

// P11.1: the choices are those of the files that are not durable, in order; a
// missing one is 0, and others are ignored.
func TestChoicesOfSeveralFiles(t *testing.T) {
	for _, c := range []struct {
		choice []int
		want   [Files]string
	}{
		{nil, [Files]string{"s", "", "s", "s"}},
		{[]int{1}, [Files]string{"sa", "", "s", "s"}},
		{[]int{0, 2}, [Files]string{"s", "", "p", "s"}},
		{[]int{0, 1}, [Files]string{"s", "", "", "s"}},
		{[]int{2, 3, 1}, [Files]string{"sab", "", "pq", "sc"}},
		{[]int{3, 4, 2, 9, 9, 9}, [Files]string{"s", "", "s", "s"}},
	} {
		d := New(100)
		ok(t, d.Append(0, "s"), d.Append(2, "s"), d.Append(3, "s"))
		ok(t, d.Sync(0), d.Sync(2), d.Sync(3), d.Append(0, "ab"), d.Put(2, "pq"), d.Append(3, "c"))
		choice := append(make([]int, 0, 16), c.choice...)
		d.Crash(choice...)
		for f, want := range c.want {
			is(t, d, f, want, true)
		}
		if !slices.Equal(choice, c.choice) || slices.Max(append(choice[len(choice):16], 0)) != 0 {
			t.Errorf("the choices %d have changed", c.choice)
		}
	}
}

// P11.1: a Put of the durable content is no choice, but bytes that are
// appended to it come after a Put.
func TestPutOfTheSame(t *testing.T) {
	same := func() *Disk {
		d := New(100)
		ok(t, d.Append(0, "ab"), d.Sync(0), d.Put(0, "ab"), d.Append(1, "cd"))
		return d
	}
	d := same()
	d.Crash(1)
	is(t, d, 0, "ab", true)
	is(t, d, 1, "c", true)
	for c, want := range []string{"ab", "", "a", "ab", "abx"} {
		d := same()
		ok(t, d.Append(0, "x"))
		d.Crash(c)
		is(t, d, 0, want, true)
	}
}

// P11.1: after a crash every file is as after a Sync, and no call fails.
func TestAfterCrash(t *testing.T) {
	for _, d := range []*Disk{appended(t, 0), put(t, 0)} {
		d.Fail(0)
		d.Crash(2)
		ok(t, d.Sync(3), d.Sync(3))
		s, _ := d.Read(0)
		for range 2 {
			d.Crash(1)
			is(t, d, 0, s, true)
		}
		ok(t, d.Append(0, "123"))
		d.Crash(2)
		is(t, d, 0, s+"12", true)
	}
	d := New(100)
	ok(t, d.Append(0, "ab"), d.Sync(0), d.Put(0, "ab"))
	d.Crash()
	ok(t, d.Append(0, "123"))
	d.Crash(1)
	is(t, d, 0, "ab1", true)
}

// P11.1: a Sync ends what a Put began.
func TestSyncAfterPut(t *testing.T) {
	for c, want := range []string{"xyz", "xyz1", "xyz12"} {
		d := put(t, 0)
		ok(t, d.Sync(0), d.Append(0, "12"))
		d.Crash(c)
		is(t, d, 0, want, true)
	}
	for c, want := range afterPut() {
		d := put(t, 0)
		d.Fail(0)
		if e := d.Sync(0); e != api.ErrIO {
			t.Errorf("the Sync that fails: %d", e)
		}
		is(t, d, 0, "xyz", false)
		d.Crash(c)
		is(t, d, 0, want, true)
	}
}

// P11.1: Spoil alters a byte of both contents.
func TestSpoil(t *testing.T) {
	d := New(100)
	ok(t, d.Append(1, "abc"), d.Sync(1), d.Append(2, "abc"), d.Sync(2))
	if !d.Spoil(1, 0, 3) || !d.Spoil(1, 2, 0x80) || !d.Spoil(1, 1, 0) {
		t.Errorf("there are three bytes")
	}
	is(t, d, 1, "bb\xe3", true)
	is(t, d, 2, "abc", true)
	ok(t, d.Append(1, "d"))
	d.Crash()
	is(t, d, 1, "bb\xe3", true)
	before := *d
	for _, at := range []int{-1, 3, 4, 1 << 32, math.MinInt, math.MaxInt} {
		if d.Spoil(1, at, 1) {
			t.Errorf("there is a byte %d", at)
		}
	}
	if d.Spoil(0, 0, 1) || *d != before {
		t.Errorf("the disk has changed")
	}
}

// P11.1: Spoil does nothing to a file that is not durable, and leaves one that
// is as after a Sync.
func TestSpoilAndSync(t *testing.T) {
	for _, d := range []*Disk{appended(t, 0), put(t, 0)} {
		before := *d
		if d.Spoil(0, 0, 1) || *d != before {
			t.Errorf("a file that is not durable was altered")
		}
		ok(t, d.Sync(0))
		if !d.Spoil(0, 0, 1) {
			t.Errorf("a durable file was not altered")
		}
	}
	for _, by := range []byte{0, 1} {
		d := New(100)
		ok(t, d.Append(0, "ab"), d.Sync(0), d.Put(0, "ab"))
		if !d.Spoil(0, 1, by) {
			t.Errorf("a durable file was not altered")
		}
		ok(t, d.Append(0, "12"))
		d.Crash(1)
		is(t, d, 0, "a"+string([]byte{'b' ^ by})+"1", true)
	}
}

// P11.1: a copy has the same state, and neither changes with the other one.
func TestClone(t *testing.T) {
	d := put(t, 2)
	ok(t, d.Append(0, "ab"))
	d.Fail(1)
	a, b := d.Clone(), d.Clone()
	for _, c := range []*Disk{a, d, b} {
		is(t, c, 2, "xyz", false)
		is(t, c, 0, "ab", false)
		ok(t, c.Append(1, "c"))
		if e := c.Put(2, "other"); e != api.ErrIO {
			t.Errorf("the second call: %d", e)
		}
		if e := c.Append(3, strings.Repeat("x", 95)); e != api.ErrFull {
			t.Errorf("without room: %d", e)
		}
		c.Crash(1, 1, 4)
		is(t, c, 0, "a", true)
		is(t, c, 1, "c", true)
		is(t, c, 2, "xyz", true)
		if !c.Spoil(0, 0, 1) {
			t.Errorf("there is a byte")
		}
		ok(t, c.Put(1, ""))
	}
}

// step is what is known of one file by its history alone: its durable content
// and what was done since then.
type step struct {
	synced string
	since  []string // the current content after each call
	put    bool
}

// now returns the current content.
func (s step) now() string {
	if len(s.since) == 0 {
		return s.synced
	}
	return s.since[len(s.since)-1]
}

// remains returns all that a crash may leave, by choice.
func (s step) remains() []string {
	var l []string
	all := s.now()
	if s.put {
		l = append(l, s.synced)
		for n := range len(all) + 1 {
			l = append(l, all[:n])
		}
		return l
	}
	for n := len(s.synced); n <= len(all); n++ {
		l = append(l, all[:n])
	}
	return l
}

// P11.1: any calls, compared with the history of each file.
func TestAnyCalls(t *testing.T) {
	g := rand.New(rand.NewSource(1))
	for range 400 {
		room := g.Intn(60)
		d := New(room)
		var l [Files]step
		for range 60 {
			f := g.Intn(Files)
			s := strings.Repeat(string([]byte{byte('a' + g.Intn(3))}), g.Intn(6))
			switch g.Intn(6) {
			case 0, 1:
				change(t, d, &l, room, f, step{l[f].synced, append(slices.Clone(l[f].since), l[f].now()+s), l[f].put}, func() api.Errno { return d.Append(f, s) })
			case 2:
				change(t, d, &l, room, f, step{l[f].synced, []string{s}, true}, func() api.Errno { return d.Put(f, s) })
			case 3:
				ok(t, d.Sync(f))
				l[f] = step{synced: l[f].now()}
			case 4:
				d = d.Clone()
			case 5:
				crash(t, d, &l, g)
			}
			for f := range Files {
				is(t, d, f, l[f].now(), l[f].now() == l[f].synced)
			}
			if d.Used() != used(l) {
				t.Fatalf("%d bytes are occupied, not %d", d.Used(), used(l))
			}
		}
	}
}

// used returns how many bytes are occupied.
func used(l [Files]step) int {
	n := 0
	for _, s := range l {
		n += max(len(s.now()), len(s.synced))
	}
	return n
}

// change makes a call after which file f would be next, and fails unless it
// returns ErrFull exactly if there is no room for that.
func change(t *testing.T, d *Disk, l *[Files]step, room, f int, next step, call func() api.Errno) {
	t.Helper()
	after := *l
	after[f] = next
	want := api.OK
	if used(after) > room && used(after) > used(*l) {
		want = api.ErrFull
	}
	if e := call(); e != want {
		t.Fatalf("%d, not %d", e, want)
	}
	if want == api.OK {
		*l = after
	}
}

// crash crashes the disk with any choices, and fails unless what they say
// remains.
func crash(t *testing.T, d *Disk, l *[Files]step, g *rand.Rand) {
	t.Helper()
	var choice []int
	for f, s := range l {
		after := s.now()
		if s.now() != s.synced {
			all := s.remains()
			c := g.Intn(len(all))
			choice = append(choice, c-len(all)*g.Intn(3))
			after = all[c]
		}
		l[f] = step{synced: after}
	}
	d.Crash(choice...)
	for f := range Files {
		is(t, d, f, l[f].synced, true)
	}
}

// P11.2: what was synced remains after any crash if there was no Put to that
// file since, whatever else was done.
func TestSyncedRemains(t *testing.T) {
	g := rand.New(rand.NewSource(2))
	for range 2000 {
		d := New(1000)
		for f := range Files {
			ok(t, d.Put(f, "junk"), d.Put(f, strings.Repeat("s", g.Intn(5))))
		}
		synced, _ := d.Read(0)
		ok(t, d.Sync(0))
		for range g.Intn(10) {
			ok(t, d.Append(0, "more"), d.Put(1+g.Intn(3), "other"))
			if g.Intn(3) == 0 {
				synced, _ = d.Read(0)
				ok(t, d.Sync(0))
			}
			if g.Intn(3) == 0 {
				d.Crash(g.Int()-g.Int(), g.Int())
			}
		}
		d.Crash(g.Int()-g.Int(), g.Int(), g.Int())
		if s, _ := d.Read(0); !strings.HasPrefix(s, synced) {
			t.Fatalf("%q, and %q was synced", s, synced)
		}
	}
}
