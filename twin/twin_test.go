package twin

import (
	"math"
	"math/rand"
	"slices"
	"strings"
	"testing"

	"chatelaine/api"
	"chatelaine/code"
	"chatelaine/disk"
	"chatelaine/seal"
)

// content returns what is in the frame of a half.
func content(version uint64, text string) string {
	var w code.Writer
	return w.U(version).S(text).Text()
}

// frame returns the content of a file with that version and text.
func frame(version uint64, text string) string { return seal.Frame(1, content(version, text)) }

// with returns a disk with these files, from a number on, which are durable.
func with(t *testing.T, first int, l ...string) *disk.Disk {
	t.Helper()
	d := disk.New(1 << 22)
	for i, s := range l {
		if d.Put(first+i, s) != api.OK || d.Sync(first+i) != api.OK {
			t.Fatalf("file %d cannot be written", first+i)
		}
	}
	return d
}

// open opens a cell, and fails unless it has that version and text.
func open(t *testing.T, d *disk.Disk, first int, version uint64, text string) *Cell {
	t.Helper()
	c, s, e := Open(d, first)
	if e != api.OK || c == nil || s != text || c.Version() != version {
		t.Fatalf("%d, version %d, %.40q; not %d, %.40q", e, c.Version(), s, version, text)
	}
	return c
}

// refused fails unless Open returns that error and no cell.
func refused(t *testing.T, d *disk.Disk, first int, want api.Errno) {
	t.Helper()
	if c, s, e := Open(d, first); c != nil || s != "" || e != want {
		t.Fatalf("%v, %.40q, %d, not %d", c, s, e, want)
	}
}

// write writes a text.
func write(t *testing.T, c *Cell, s string) {
	t.Helper()
	if e := c.Write(s); e != api.OK {
		t.Fatalf("Write(%.40q): %d", s, e)
	}
}

// both fails unless both files contain exactly this, and for sure.
func both(t *testing.T, d *disk.Disk, first int, want string) {
	t.Helper()
	for f := first; f < first+2; f++ {
		if s, _ := d.Read(f); s != want || !d.Sure(f) {
			t.Fatalf("file %d: %.60x, durable: %v; not %.60x", f, s, d.Sure(f), want)
		}
	}
}

// P12.1: the example.
func TestExample(t *testing.T) {
	d := disk.New(100)
	write(t, open(t, d, 0, 0, ""), "a")
	s, _ := d.Read(0)
	if len(s) != 11 || s[:7] != "\x01\x00\x00\x03\x01\x01a" {
		t.Errorf("%x", s)
	}
	both(t, d, 0, s)
	both(t, d, 0, frame(1, "a"))
}

// texts returns texts of many lengths.
func texts() []string {
	l := []string{"a", "", "b", "b", "\x00", frame(1, "a")}
	for _, n := range []int{251, 252, 1 << 16, 1<<19 - 1, 1 << 19} {
		l = append(l, strings.Repeat("\xff", n))
	}
	return append(l, "", "last")
}

// P12.1: Open returns what was written, in any two files, and the versions
// count the writes; the other files do not change.
func TestOpenReturnsWhatWasWritten(t *testing.T) {
	for first := range disk.Files - 1 {
		d := with(t, 0, "w", "x", "y", "z")
		for f := first; f < first+2; f++ {
			d.Put(f, "")
			d.Sync(f)
		}
		others := *d
		c := open(t, d, first, 0, "")
		if *d != others {
			t.Errorf("Open of an empty cell has changed the disk")
		}
		for i, s := range texts() {
			write(t, c, s)
			if c.Version() != uint64(i+1) {
				t.Errorf("%d writes: version %d", i+1, c.Version())
			}
			both(t, d, first, frame(uint64(i+1), s))
			again := open(t, d, first, uint64(i+1), s)
			if i%2 == 0 {
				c = again
			}
		}
		for f := range disk.Files {
			if s, _ := d.Read(f); (f < first || f > first+1) && s != "wxyz"[f:f+1] {
				t.Errorf("the cell at %d has changed file %d", first, f)
			}
		}
	}
}

// P12.1: two cells of one disk.
func TestTwoCells(t *testing.T) {
	d := disk.New(1000)
	a, b := open(t, d, 0, 0, ""), open(t, d, 2, 0, "")
	write(t, a, "one")
	write(t, b, "two")
	write(t, b, "three")
	open(t, d, 0, 1, "one")
	open(t, d, 2, 2, "three")
}

// P12.1: a cell needs two files.
func TestNoFiles(t *testing.T) {
	d := with(t, 0, frame(1, "a"), frame(1, "a"), frame(2, "b"), frame(1, "a"))
	d.Fail(0)
	before := *d
	for _, first := range []int{-1, -2, 3, 4, 5, 1 << 32, math.MinInt, math.MaxInt} {
		refused(t, d, first, api.ErrInval)
	}
	if *d != before {
		t.Errorf("the disk has changed")
	}
	refused(t, d, 2, api.ErrIO)
	for _, first := range []int{-2, -1, 3, 4} {
		refused(t, disk.New(100), first, api.ErrInval)
		refused(t, with(t, 0, "x", "y", "z", "x"), first, api.ErrInval)
	}
}

// P12.1: nothing is rewritten as long as there is no version, also if a bad
// first file is not durable.
func TestNothingToRewrite(t *testing.T) {
	for _, s := range badFiles() {
		d := disk.New(100)
		d.Append(0, s)
		d.Fail(0)
		before := *d
		open(t, d, 0, 0, "")
		if *d != before {
			t.Errorf("%x: the disk has changed", s)
		}
	}
}

// Rule 1: the cell that Open returns with an error cannot be written.
func TestNoCell(t *testing.T) {
	c, _, _ := Open(disk.New(100), -1)
	if e := c.Write("a"); e != api.ErrInval || c.Version() != 0 {
		t.Errorf("%d, version %d", e, c.Version())
	}
}

// P12.1: a text that is too long changes nothing, and is refused before the
// disk is called.
func TestTooLong(t *testing.T) {
	d := disk.New(1 << 22)
	c := open(t, d, 1, 0, "")
	write(t, c, "a")
	d.Fail(0)
	before := *d
	for _, n := range []int{1<<19 + 1, 1 << 20, 1 << 21} {
		if e := c.Write(strings.Repeat("x", n)); e != api.ErrBig {
			t.Errorf("%d bytes: %d", n, e)
		}
	}
	if *d != before || c.Version() != 1 {
		t.Errorf("version %d, and the disk has changed: %v", c.Version(), *d != before)
	}
	if e := c.Write("b"); e != api.ErrIO {
		t.Errorf("the call that fails: %d", e)
	}
}

// made is the content of a file, and what it means.
type made struct {
	s       string
	version uint64 // 0 for none
	text    string
	bad     bool
}

// anyMade returns contents of each kind; the first one is that without bytes.
func anyMade() []made {
	l := []made{{}}
	for _, h := range []half{{1, ""}, {1, "a"}, {1, "b"}, {2, "a"}, {2, "b"}, {252, "a"}, {1 << 32, "ab"}, {math.MaxUint64, "z"}} {
		l = append(l, made{frame(h.version, h.text), h.version, h.text, false})
	}
	for _, s := range badFiles() {
		l = append(l, made{s: s, bad: true})
	}
	return l
}

// badFiles returns contents of files that are bad.
func badFiles() []string {
	whole := frame(3, "abc")
	l := []string{
		whole + "\x00", whole + whole, "\x00" + whole, frame(0, "abc"), frame(0, ""),
		seal.Frame(2, content(3, "abc")), seal.Frame(255, content(3, "abc")),
		seal.Frame(1, content(3, "abc")+"\x00"), seal.Frame(1, ""), seal.Frame(1, "\x03"),
		seal.Frame(1, "\xfc\x00\x03\x03abc"), seal.Frame(1, "\x03\xfc\x00\x03abc"),
		seal.Frame(1, "\x03\x04abc"), seal.Frame(1, "\xff\x03abc"), seal.Frame(1, "\x03\xff"),
		"\x00", "\x01", "\x00\x00\x00\x00\x00\x00\x00\x00", "\x01\xff\xff\xff", "abc",
	}
	for n := 1; n < len(whole); n++ {
		l = append(l, whole[:n])
	}
	return l
}

// opened returns what Open should return for two files.
func opened(a, b made) (version uint64, text string, e api.Errno) {
	switch {
	case a.bad && b.bad, a.s == "" && b.bad:
		return 0, "", api.ErrCorrupt
	case b.version > a.version:
		return b.version, b.text, api.OK
	}
	return a.version, a.text, api.OK
}

// P12.1: any two files: the greater version counts, the first file if they are
// equal, and each other file is rewritten.
func TestAnyTwoFiles(t *testing.T) {
	for _, a := range anyMade() {
		for _, b := range anyMade() {
			d := with(t, 1, a.s, b.s)
			before := *d
			version, text, e := opened(a, b)
			if e != api.OK {
				refused(t, d, 1, e)
			} else {
				open(t, d, 1, version, text)
			}
			if version == 0 && *d != before {
				t.Errorf("%.40x, %.40x: the disk has changed", a.s, b.s)
			}
			if version > 0 {
				both(t, d, 1, frame(version, text))
			}
		}
	}
}

// P12.1: any text that a frame may contain is read, also one that Write does
// not take.
func TestLongestText(t *testing.T) {
	text := strings.Repeat("x", seal.Most-6)
	d := with(t, 0, frame(7, text), "")
	open(t, d, 0, 7, text)
	both(t, d, 0, frame(7, text))
}

// P12.1: only files that do not contain the version and text are rewritten, by
// two calls of the disk, whose error Open returns.
func TestErrorsOfOpen(t *testing.T) {
	for _, a := range anyMade() {
		for _, b := range anyMade() {
			version, text, e := opened(a, b)
			if e != api.OK {
				continue
			}
			calls := 0
			for _, m := range []made{a, b} {
				if version > 0 && (m.version != version || m.text != text) {
					calls += 2
				}
			}
			for n := range calls + 2 {
				d := with(t, 0, a.s, b.s)
				d.Fail(n)
				if n < calls {
					refused(t, d, 0, api.ErrIO)
					d.Crash()
				}
				open(t, d, 0, version, text)
			}
		}
	}
}

// P12.1: Open returns ErrFull if there is no room to rewrite a file, and
// succeeds when there is.
func TestOpenWithoutRoom(t *testing.T) {
	for _, files := range [][2]string{{frame(2, "ab"), ""}, {"", frame(2, "ab")}, {frame(2, "ab"), "x"}, {frame(2, "ab"), frame(1, "")}} {
		d := disk.New(24)
		other := strings.Repeat("o", 24-len(files[0])-len(files[1]))
		for f, s := range []string{files[0], files[1], other} {
			if d.Append(f, s) != api.OK || d.Sync(f) != api.OK {
				t.Fatalf("no room for file %d", f)
			}
		}
		refused(t, d, 0, api.ErrFull)
		refused(t, d, 0, api.ErrFull)
		d.Put(2, "")
		d.Sync(2)
		open(t, d, 0, 2, "ab")
		both(t, d, 0, frame(2, "ab"))
	}
}

// P12.1: Write returns the error of the disk, whichever call it is.
func TestErrorsOfWrite(t *testing.T) {
	for n := range 6 {
		d := disk.New(1000)
		c := open(t, d, 0, 0, "")
		write(t, c, "a")
		d.Fail(n)
		want := api.OK
		if n < 4 {
			want = api.ErrIO
		}
		if e := c.Write("b"); e != want {
			t.Errorf("call %d: %d, not %d", n, e, want)
		}
	}
}

// P12.1: without room for the first file nothing has changed, and the cell is
// still used.
func TestNoRoomForTheFirstFile(t *testing.T) {
	d := disk.New(25)
	c := open(t, d, 0, 0, "")
	write(t, c, "a")
	for range 2 {
		before := *d
		if e := c.Write("abcd" + strings.Repeat("x", 20)); e != api.ErrFull || c.Version() != 1 || *d != before {
			t.Errorf("%d, version %d, the disk has changed: %v", e, c.Version(), *d != before)
		}
	}
	write(t, c, "b")
	both(t, d, 0, frame(2, "b"))
	open(t, d, 0, 2, "b")
}

// P12.1: without room for the second file, the text is there when there is
// room again.
func TestNoRoomForTheSecondFile(t *testing.T) {
	d := disk.New(30)
	d.Append(3, "12345")
	d.Sync(3)
	c := open(t, d, 0, 0, "")
	write(t, c, "a")
	if e := c.Write("abc"); e != api.ErrFull {
		t.Errorf("%d", e)
	}
	d.Crash()
	refused(t, d, 0, api.ErrFull)
	d.Put(3, "")
	d.Sync(3)
	open(t, d, 0, 2, "abc")
}

// crashes calls use with a copy of the disk after each crash that may be.
func crashes(d *disk.Disk, use func(d *disk.Disk)) {
	ways := [2]int{1, 1}
	for f := range ways {
		if s, _ := d.Read(f); !d.Sure(f) {
			ways[f] = len(s) + 2
		}
	}
	for i := range ways[0] {
		for j := range ways[1] {
			c := d.Clone()
			if d.Sure(0) {
				c.Crash(j)
			} else {
				c.Crash(i, j)
			}
			use(c)
		}
	}
}

// opens calls use with the disk after an Open that succeeds, and after each one
// that fails at any call and the crashes after that.
func opens(t *testing.T, d *disk.Disk, use func(d *disk.Disk)) {
	t.Helper()
	// It makes at most four calls of the disk.
	for n := range 5 {
		c := d.Clone()
		c.Fail(n)
		_, _, e := Open(c, 0)
		c.Fail(-1)
		switch e {
		case api.OK:
			use(c)
			return
		case api.ErrIO:
			use(c.Clone())
			crashes(c, use)
		default:
			t.Fatalf("Open: %d", e)
		}
	}
	t.Fatalf("Open always fails")
}

// one fails unless the cell has one of these texts, in both files and for
// sure, and can be written.
func one(t *testing.T, d *disk.Disk, l ...string) {
	t.Helper()
	c, s, e := Open(d, 0)
	if e != api.OK || !slices.Contains(l, s) {
		t.Fatalf("%d, %q, not one of %q", e, s, l)
	}
	if c.Version() > 0 {
		both(t, d, 0, frame(c.Version(), s))
	}
	write(t, c, "after")
	open(t, d, 0, max(c.Version(), 1), "after")
}

// writes calls use with the disk after a Write that fails at any call of the
// disk, or at none.
func writes(t *testing.T, d *disk.Disk, text string, use func(d *disk.Disk, e api.Errno)) {
	t.Helper()
	for n := range 5 {
		a := d.Clone()
		c, _, e := Open(a, 0)
		if e != api.OK {
			t.Fatalf("Open: %d", e)
		}
		a.Fail(n)
		e = c.Write(text)
		a.Fail(-1)
		use(a, e)
	}
}

// begun returns disks whose cell has that text.
func begun(t *testing.T, text string) []*disk.Disk {
	t.Helper()
	l := []*disk.Disk{with(t, 0, frame(7, text), frame(7, text)), with(t, 0, frame(math.MaxUint64, text), frame(math.MaxUint64, text))}
	if text == "" {
		l = append(l, disk.New(1000))
	}
	return l
}

// P12.2: a crash during a Write, and another one during the Open after that.
func TestCrashDuringWrite(t *testing.T) {
	for _, old := range []string{"", "a", "a text"} {
		for _, d := range begun(t, old) {
			for _, text := range []string{"", "b", "a text", "another"} {
				writes(t, d, text, func(a *disk.Disk, e api.Errno) {
					allowed := []string{text}
					if e != api.OK {
						allowed = append(allowed, old)
					}
					crashes(a, func(b *disk.Disk) {
						one(t, b.Clone(), allowed...)
						opens(t, b, func(c *disk.Disk) { one(t, c, allowed...) })
					})
				})
			}
		}
	}
}

// P12.2: a cell that is opened again after an error, without a crash, and one
// during the Open and during the Write after that.
func TestCrashAfterAnError(t *testing.T) {
	for _, old := range []string{"", "a"} {
		for _, d := range begun(t, old) {
			writes(t, d, "b", func(a *disk.Disk, e api.Errno) {
				allowed := []string{"b"}
				if e != api.OK {
					allowed = append(allowed, old)
				}
				opens(t, a, func(b *disk.Disk) { one(t, b, allowed...) })
				writes(t, a, "c", func(b *disk.Disk, e api.Errno) {
					allowed := append(slices.Clone(allowed), "c")
					if e == api.OK {
						allowed = []string{"c"}
					}
					crashes(b, func(c *disk.Disk) { one(t, c, allowed...) })
				})
			})
		}
	}
}

// P12.2: any sequence of calls, errors and crashes; what Open has returned
// remains as well.
func TestAnySequence(t *testing.T) {
	g := rand.New(rand.NewSource(1))
	for range 3000 {
		d := disk.New(1000)
		allowed := []string{""}
		for range 8 {
			c, s, e := Open(d, 0)
			if e == api.ErrIO {
				d.Crash(g.Int(), g.Int())
				continue
			}
			if e != api.OK || !slices.Contains(allowed, s) {
				t.Fatalf("%d, %q, not one of %q", e, s, allowed)
			}
			allowed = []string{s}
			d.Fail(g.Intn(12))
			// Each Write makes four calls of the disk.
			for i := 0; i < 3 && e == api.OK; i++ {
				s = strings.Repeat("t", g.Intn(5))
				e = c.Write(s)
				if e == api.OK {
					allowed = nil
				}
				allowed = append(allowed, s)
			}
			if e == api.OK {
				t.Fatalf("no Write has failed")
			}
			if g.Intn(2) == 0 {
				d.Crash(g.Int(), g.Int())
			}
			d.Fail(g.Intn(5) - 1)
		}
	}
}

// P12.2: the versions after the greatest one begin again with 1.
func TestVersionAfterTheGreatest(t *testing.T) {
	last := frame(math.MaxUint64, "old")
	d := with(t, 0, last, last)
	c := open(t, d, 0, math.MaxUint64, "old")
	write(t, c, "new")
	if c.Version() != 1 {
		t.Errorf("version %d", c.Version())
	}
	both(t, d, 0, frame(1, "new"))
	open(t, d, 0, 1, "new")
}

// P12.3: one byte of either file that is altered does not matter.
func TestOneAlteredByte(t *testing.T) {
	for first := range disk.Files - 1 {
		for _, l := range [][]string{{""}, {"a"}, {"some text"}, {"a", "b"}, {"a", "", "more"}} {
			d := disk.New(1000)
			c := open(t, d, first, 0, "")
			for _, s := range l {
				write(t, c, s)
			}
			version, text := c.Version(), l[len(l)-1]
			size := len(frame(version, text))
			for i := range 2 * size {
				for by := range 256 {
					a := d.Clone()
					if !a.Spoil(first+i/size, i%size, byte(by)) {
						t.Fatalf("there is no byte %d", i)
					}
					open(t, a, first, version, text)
					both(t, a, first, frame(version, text))
				}
			}
		}
	}
}
