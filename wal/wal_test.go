package wal

import (
	"math"
	"math/rand"
	"slices"
	"strings"
	"testing"

	"chatelaine/api"
	"chatelaine/code"
	"chatelaine/disk"
	"chatelaine/seal"
	"chatelaine/twin"
)

// framed returns the content of a file with these records.
func framed(gen uint64, l ...string) string {
	text := ""
	for _, s := range l {
		var w code.Writer
		text += seal.Frame(1, w.U(gen).S(s).Text())
	}
	return text
}

// marked returns the text of a mark.
func marked(gen uint64, synced int) string {
	var w code.Writer
	return w.U(gen).N(synced).Text()
}

// ok fails unless every error is OK.
func ok(t *testing.T, l ...api.Errno) {
	t.Helper()
	for i, e := range l {
		if e != api.OK {
			t.Fatalf("call %d of %d: %d", i+1, len(l), e)
		}
	}
}

// with returns a disk with that text in the cell and these files from 0 on,
// all of it durable.
func with(t *testing.T, text string, files ...string) *disk.Disk {
	t.Helper()
	d := disk.New(1 << 22)
	for f, s := range files {
		ok(t, d.Put(f, s), d.Sync(f))
	}
	if text != "" {
		c, _, e := twin.Open(d, 2)
		ok(t, e, c.Write(text))
	}
	return d
}

// open opens a log, and fails unless it has these records.
func open(t *testing.T, d *disk.Disk, want ...string) *Log {
	t.Helper()
	l, list, e := Open(d)
	if e != api.OK || l == nil || !slices.Equal(list, want) {
		t.Fatalf("%d, %.99q; not %.99q", e, list, want)
	}
	if l.Records() != len(want) || l.Size() != len(framed(l.Gen(), want...)) {
		t.Fatalf("%d records of %d bytes: %.99q", l.Records(), l.Size(), want)
	}
	return l
}

// refused fails unless Open returns that error, and nothing else.
func refused(t *testing.T, d *disk.Disk, want api.Errno) {
	t.Helper()
	if l, list, e := Open(d); l != nil || len(list) > 0 || e != want {
		t.Fatalf("%v, %.99q, %d; not %d", l, list, e, want)
	}
}

// has fails unless the log has this generation and these records, and the disk
// has the files and the mark of that, all of it durable.
func has(t *testing.T, l *Log, d *disk.Disk, gen uint64, want ...string) {
	t.Helper()
	text := framed(gen, want...)
	if l.Gen() != gen || l.Records() != len(want) || l.Size() != len(text) {
		t.Fatalf("generation %d, %d records, %d bytes; not %d, %d, %d", l.Gen(), l.Records(), l.Size(), gen, len(want), len(text))
	}
	f := int(gen % 2)
	s, _ := d.Read(f)
	other, _ := d.Read(1 - f)
	if s != text || other != "" {
		t.Fatalf("%.99q, and in the other file %.99q; not %.99q", s, other, text)
	}
	_, m, e := twin.Open(d, 2)
	if e != api.OK || m != marked(gen, len(text)) && (m != "" || gen != 0 || text != "") {
		t.Fatalf("the mark: %q, %d", m, e)
	}
	for f := range disk.Files {
		if !d.Sure(f) {
			t.Fatalf("file %d is not durable", f)
		}
	}
}

// P13.1: the example.
func TestExample(t *testing.T) {
	d := disk.New(1000)
	l := open(t, d)
	ok(t, l.Append("a"), l.Append("b"), l.Sync(), l.Append("c"))
	d.Crash()
	open(t, d, "a", "b")
}

// P13.1: what the files contain.
func TestFiles(t *testing.T) {
	d := disk.New(1000)
	l := open(t, d)
	has(t, l, d, 0)
	ok(t, l.Append("a"))
	if s, _ := d.Read(0); len(s) != 11 || s[:7] != "\x01\x00\x00\x03\x00\x01a" || d.Sure(0) || d.Used() != 11 {
		t.Errorf("%x, %d bytes are occupied", s, d.Used())
	}
	ok(t, l.Append(""), l.Sync())
	has(t, l, d, 0, "a", "")
	if _, m, _ := twin.Open(d, 2); m != "\x00\x15" {
		t.Errorf("the mark: %x", m)
	}
	ok(t, l.Rewrite("xy"))
	has(t, l, d, 1, "xy")
	if s, _ := d.Read(1); s[:8] != "\x01\x00\x00\x04\x01\x02xy" {
		t.Errorf("%x", s)
	}
	ok(t, l.Append("z"), l.Sync())
	has(t, l, d, 1, "xy", "z")
	ok(t, l.Rewrite())
	has(t, l, d, 2)
	ok(t, l.Append("last"), l.Sync())
	has(t, l, d, 2, "last")
}

// P13.1: any calls, with the log opened again now and then: it always has all
// records.
func TestAnyCalls(t *testing.T) {
	g := rand.New(rand.NewSource(1))
	for range 300 {
		d := disk.New(1 << 20)
		l, want, gen := open(t, d), []string(nil), uint64(0)
		for range 40 {
			s := strings.Repeat("r", g.Intn(300))
			switch g.Intn(6) {
			case 0, 1, 2:
				ok(t, l.Append(s))
				want = append(want, s)
			case 3:
				ok(t, l.Sync())
				has(t, l, d, gen, want...)
			case 4:
				l = open(t, d, want...)
			case 5:
				want = append(slices.Clone(want[g.Intn(len(want)+1):]), s)
				gen++
				ok(t, l.Rewrite(want...))
				has(t, l, d, gen, want...)
			}
			if l.Gen() != gen || l.Records() != len(want) || l.Size() != len(framed(gen, want...)) {
				t.Fatalf("generation %d, %d records, %d bytes", l.Gen(), l.Records(), l.Size())
			}
			open(t, d.Clone(), want...)
		}
	}
}

// P13.1: records of any length up to MaxRecord and of any bytes; a longer one
// changes nothing, and is refused before the disk is called.
func TestLengths(t *testing.T) {
	if MaxRecord != 1<<18 {
		t.Errorf("MaxRecord is %d", MaxRecord)
	}
	d := disk.New(1 << 22)
	l := open(t, d)
	var want []string
	for _, n := range []int{0, 1, 251, 252, 1<<16 - 1, 1 << 16, MaxRecord - 1, MaxRecord} {
		s := strings.Repeat("\xff", n)
		ok(t, l.Append(s))
		want = append(want, s)
	}
	want = append(want, framed(0, "a"), "\x00", "\x01\x00\x00\x03\x00\x01a")
	ok(t, l.Append(want[8]), l.Append(want[9]), l.Append(want[10]), l.Sync())
	has(t, l, d, 0, want...)
	d.Fail(0)
	before := *d
	for _, n := range []int{MaxRecord + 1, 1 << 19, 1 << 21} {
		long := strings.Repeat("x", n)
		for i, e := range []api.Errno{l.Append(long), l.Rewrite(long), l.Rewrite("a", long), l.Rewrite(long, "a")} {
			if e != api.ErrBig {
				t.Errorf("%d bytes, call %d: %d", n, i, e)
			}
		}
	}
	ok(t, l.Sync())
	if *d != before {
		t.Errorf("the disk has changed")
	}
	d.Fail(-1)
	has(t, l, d, 0, want...)
	open(t, d, want...)
	ok(t, l.Rewrite(want...))
	has(t, l, d, 1, want...)
	open(t, d, want...)
}

// started returns a log with a durable record a and a record b after it.
func started(t *testing.T) (*Log, *disk.Disk) {
	t.Helper()
	d := disk.New(1000)
	l := open(t, d)
	ok(t, l.Append("a"), l.Sync(), l.Append("b"))
	return l, d
}

// stopped makes a call that the disk stops at its call n, and returns the files
// and the texts of the cell's halves.
func stopped(t *testing.T, n int, call func(l *Log) api.Errno) (files [disk.Files]string, sure [disk.Files]bool) {
	t.Helper()
	l, d := started(t)
	d.Fail(n)
	if e := call(l); e != api.ErrIO {
		t.Fatalf("call %d: %d", n, e)
	}
	for f := range disk.Files {
		files[f], _ = d.Read(f)
		sure[f] = d.Sure(f)
	}
	return files, sure
}

// half returns a file of the cell.
func half(version uint64, text string) string {
	var w code.Writer
	return seal.Frame(1, w.U(version).S(text).Text())
}

// P13.1: Sync syncs the file, and then it writes the mark.
func TestCallsOfSync(t *testing.T) {
	both := framed(0, "a", "b")
	old, next := half(1, marked(0, 11)), half(2, marked(0, 22))
	for n, want := range []struct {
		files [disk.Files]string
		sure  [disk.Files]bool
	}{
		{[disk.Files]string{both, "", old, old}, [disk.Files]bool{false, true, true, true}},
		{[disk.Files]string{both, "", old, old}, [disk.Files]bool{true, true, true, true}},
		{[disk.Files]string{both, "", next, old}, [disk.Files]bool{true, true, false, true}},
		{[disk.Files]string{both, "", next, old}, [disk.Files]bool{true, true, true, true}},
		{[disk.Files]string{both, "", next, next}, [disk.Files]bool{true, true, true, false}},
	} {
		files, sure := stopped(t, n, (*Log).Sync)
		if files != want.files || sure != want.sure {
			t.Errorf("call %d: %q, durable: %v", n, files, sure)
		}
	}
	l, d := started(t)
	d.Fail(5)
	ok(t, l.Sync())
	has(t, l, d, 0, "a", "b")
}

// P13.1: Rewrite puts and syncs the other file, writes the mark, and then puts
// and syncs the old file.
func TestCallsOfRewrite(t *testing.T) {
	both, x := framed(0, "a", "b"), framed(1, "x", "y", "z")
	old, next := half(1, marked(0, 11)), half(2, marked(1, 33))
	for n, want := range []struct {
		files [disk.Files]string
		sure  [disk.Files]bool
	}{
		{[disk.Files]string{both, "", old, old}, [disk.Files]bool{false, true, true, true}},
		{[disk.Files]string{both, x, old, old}, [disk.Files]bool{false, false, true, true}},
		{[disk.Files]string{both, x, old, old}, [disk.Files]bool{false, true, true, true}},
		{[disk.Files]string{both, x, next, old}, [disk.Files]bool{false, true, false, true}},
		{[disk.Files]string{both, x, next, old}, [disk.Files]bool{false, true, true, true}},
		{[disk.Files]string{both, x, next, next}, [disk.Files]bool{false, true, true, false}},
		{[disk.Files]string{both, x, next, next}, [disk.Files]bool{false, true, true, true}},
		{[disk.Files]string{"", x, next, next}, [disk.Files]bool{false, true, true, true}},
	} {
		files, sure := stopped(t, n, func(l *Log) api.Errno { return l.Rewrite("x", "y", "z") })
		if files != want.files || sure != want.sure {
			t.Errorf("call %d: %q, durable: %v", n, files, sure)
		}
	}
	l, d := started(t)
	d.Fail(8)
	ok(t, l.Rewrite("x", "y", "z"))
	has(t, l, d, 1, "x", "y", "z")
}

// P13.1: Append is one call of the disk, and returns its error.
func TestCallsOfAppend(t *testing.T) {
	l, d := started(t)
	d.Fail(1)
	ok(t, l.Append("c"))
	if e := l.Append("d"); e != api.ErrIO {
		t.Errorf("%d", e)
	}
	open(t, d, "a", "b", "c")
}

// P13.1: without a record that was appended since, Sync does not call the disk.
func TestNothingToSync(t *testing.T) {
	for _, d := range []*disk.Disk{
		disk.New(0),
		with(t, marked(0, 11), framed(0, "a")),
		with(t, marked(7, 22), "", framed(7, "a", "b")),
		with(t, "", "torn"),
	} {
		l, _, e := Open(d)
		ok(t, e)
		d.Fail(0)
		before := *d
		ok(t, l.Sync(), l.Sync())
		if *d != before {
			t.Errorf("the disk has changed")
		}
	}
	l, d := started(t)
	for _, call := range []func() api.Errno{l.Sync, func() api.Errno { return l.Rewrite("x") }, func() api.Errno { return l.Rewrite() }} {
		ok(t, call())
		d.Fail(0)
		ok(t, l.Sync())
		d.Fail(-1)
	}
}

// P13.2: records that were appended before the log was opened are synced as
// well, whether a crash has left them or there was none.
func TestSyncAfterOpen(t *testing.T) {
	for _, crash := range []bool{false, true} {
		l, d := started(t)
		ok(t, l.Append("c"))
		if crash {
			d.Crash(22)
		}
		l = open(t, d, "a", "b", "c")
		d.Fail(0)
		if e := l.Sync(); e != api.ErrIO {
			t.Errorf("crash: %v: %d", crash, e)
		}
		l = open(t, d, "a", "b", "c")
		ok(t, l.Sync())
		has(t, l, d, 0, "a", "b", "c")
		d.Crash()
		open(t, d, "a", "b", "c")
		// Now they are synced records.
		d.Spoil(0, 32, 1)
		refused(t, d, api.ErrCorrupt)
	}
}

// P13.1: Append without room changes nothing, and the log is still used.
func TestNoRoomForARecord(t *testing.T) {
	d := disk.New(50)
	l := open(t, d)
	ok(t, l.Append("a"), l.Append("b"))
	for range 2 {
		before := *d
		if e := l.Append(strings.Repeat("x", 19)); e != api.ErrFull || *d != before || l.Records() != 2 || l.Size() != 22 {
			t.Errorf("%d, %d records, %d bytes, the disk has changed: %v", e, l.Records(), l.Size(), *d != before)
		}
	}
	ok(t, l.Sync())
	has(t, l, d, 0, "a", "b")
	if e := l.Append("c"); e != api.ErrFull {
		t.Errorf("%d", e)
	}
	// There is no record that was appended since.
	d.Fail(0)
	ok(t, l.Sync())
	open(t, d, "a", "b")
}

// P13.1: the other calls return ErrFull as well, and after that the records
// are there when the log is opened again.
func TestNoRoom(t *testing.T) {
	d := disk.New(22)
	l := open(t, d)
	ok(t, l.Append("a"), l.Append("b"))
	if e := l.Sync(); e != api.ErrFull {
		t.Errorf("Sync: %d", e)
	}
	l = open(t, d, "a", "b")
	if e := l.Rewrite("a"); e != api.ErrFull {
		t.Errorf("Rewrite: %d", e)
	}
	open(t, d, "a", "b")
	d.Crash()
	open(t, d, "a", "b")
}

// P13.1: Open returns ErrFull if other bytes are to be removed and there is no
// room for that.
func TestNoRoomToOpen(t *testing.T) {
	for _, room := range []int{15, 25, 26, 37, 38, 49, 50} {
		d := disk.New(room)
		ok(t, d.Append(0, framed(0, "a")+"torn"), d.Sync(0))
		// The file takes 15 bytes, that of the Rewrite 11, and the cell twice 12.
		if room < 50 {
			refused(t, d, api.ErrFull)
			refused(t, d, api.ErrFull)
		} else {
			has(t, open(t, d, "a"), d, 1, "a")
		}
	}
}

// P13.1: a mark of another form, whatever the files are.
func TestWrongMarks(t *testing.T) {
	for _, m := range []string{
		"\x00", "\x05", "\xff", "\xff\x00", "\x00\xff", "\x00\x0b\x00", "\x00\x0b\x0b", "\xfc\x00\x00\x0b", "\x00\xfc\x00\x0b", "\x00\xfc\x00",
		"\x00\xfe\x80\x00\x00\x00\x00\x00\x00\x00", "\x00\xfe\xff\xff\xff\xff\xff\xff\xff\xff", "\x00\xfe\x7f\xff\xff\xff\xff\xff\xff\xff", "text",
	} {
		for _, s := range []string{"", framed(0, "a"), framed(0, "a") + "torn"} {
			d := with(t, m, s, s)
			before := *d
			refused(t, d, api.ErrCorrupt)
			if *d != before {
				t.Errorf("%x: the disk has changed", m)
			}
		}
	}
}

// P13.1: the number of the mark must be that of the first bytes of the file
// that are frames of its generation.
func TestSyncedBytes(t *testing.T) {
	list := []string{"a", "", "bc", "d"}
	for _, gen := range []uint64{0, 1, 2, 300, 301} {
		ends := []int{0}
		for i := range list {
			ends = append(ends, len(framed(gen, list[:i+1]...)))
		}
		for _, tail := range []string{"", "x", framed(gen, "x")[:8], framed(gen+2, "x")} {
			text := framed(gen, list...) + tail
			for n := range len(text) + 20 {
				d := with(t, marked(gen, n), "other", "other")
				ok(t, d.Put(int(gen%2), text), d.Sync(int(gen%2)))
				before := *d
				if slices.Contains(ends, n) {
					open(t, d, list...)
				} else {
					refused(t, d, api.ErrCorrupt)
				}
				if changed := *d != before; changed != (tail != "" && slices.Contains(ends, n)) {
					t.Errorf("generation %d, %d bytes, tail %q: the disk has changed: %v", gen, n, tail, changed)
				}
			}
		}
	}
}

// P13.1: an empty cell means the generation 0, and that nothing is synced.
func TestEmptyMark(t *testing.T) {
	d := with(t, "", framed(0, "a", "b"), framed(1, "c"))
	if l := open(t, d, "a", "b"); l.Gen() != 0 {
		t.Errorf("generation %d", l.Gen())
	}
	c, _, e := twin.Open(d, 2)
	ok(t, e, c.Write(""))
	if l := open(t, d, "a", "b"); l.Gen() != 0 {
		t.Errorf("generation %d", l.Gen())
	}
}

// tails returns what is no record of that generation.
func tails(gen uint64) []string {
	content := func(form func(w *code.Writer)) string {
		var w code.Writer
		form(&w)
		return w.Text()
	}
	whole := framed(gen, "abc")
	l := []string{
		"\x00", "x", whole[1:], "\x00" + whole, "\x01\xff\xff\xff" + whole,
		framed(gen+1, "abc"), framed(gen+2, "abc"), framed(gen-1, "abc"), framed(gen-2, "abc"),
		seal.Frame(2, content(func(w *code.Writer) { w.U(gen).S("abc") })),
		seal.Frame(255, content(func(w *code.Writer) { w.U(gen).S("abc") })),
		seal.Frame(1, content(func(w *code.Writer) { w.U(gen).S("abc").U(0) })),
		seal.Frame(1, content(func(w *code.Writer) { w.U(gen).S("abc") })+"\xff"),
		seal.Frame(1, content(func(w *code.Writer) { w.U(gen) })),
		seal.Frame(1, content(func(w *code.Writer) { w.U(gen, 4) })+"abc"),
		seal.Frame(1, content(func(w *code.Writer) { w.U(gen) })+"\xfc\x00\x03abc"),
		seal.Frame(1, "\xfc\x00\x00\x03abc"), seal.Frame(1, "\xff\x03abc"), seal.Frame(1, ""),
		framed(gen, strings.Repeat("x", MaxRecord+1)),
	}
	for n := 1; n < len(whole); n++ {
		l = append(l, whole[:n])
	}
	for i := range len(whole) {
		b := []byte(whole)
		b[i] ^= 0x10
		l = append(l, string(b))
	}
	return l
}

// P13.1: other bytes after the records are removed by a Rewrite, together with
// all that comes after them; which records were synced does not matter.
func TestOtherBytes(t *testing.T) {
	for _, gen := range []uint64{0, 1, 250, 251, 252, 1<<32 - 1, math.MaxUint64 - 1, math.MaxUint64} {
		for i, tail := range tails(gen) {
			if i%2 == 0 {
				tail += framed(gen, "after")
			}
			for n, list := range [][]string{nil, {"a"}, {"a", ""}, {"", "long enough"}} {
				synced := len(framed(gen, list[:n/2]...))
				d := with(t, marked(gen, synced), framed(gen+1, "other"), framed(gen+1, "other"))
				f := int(gen % 2)
				ok(t, d.Put(f, framed(gen, list...)+tail), d.Sync(f))
				l := open(t, d, list...)
				has(t, l, d, gen+1, list...)
				ok(t, l.Append("more"), l.Sync())
				has(t, l, d, gen+1, append(slices.Clone(list), "more")...)
				open(t, d, append(slices.Clone(list), "more")...)
			}
		}
	}
}

// P13.1: the file of the other generation does not matter, and stays as it is.
func TestOtherFile(t *testing.T) {
	for _, gen := range []uint64{0, 1, 6, 7} {
		for _, other := range []string{"", "x", framed(gen+1, "b"), framed(gen, "b"), framed(gen-1, "b")} {
			files := [2]string{other, other}
			files[gen%2] = framed(gen, "a")
			d := with(t, marked(gen, 11), files[:]...)
			before := *d
			if l := open(t, d, "a"); l.Gen() != gen || *d != before {
				t.Errorf("generation %d, the disk has changed: %v", l.Gen(), *d != before)
			}
		}
	}
}

// P13.1: the error of the cell, and that of the Rewrite, at each call of the
// disk; after it, Open returns the records.
func TestErrorsOfOpen(t *testing.T) {
	for n := range 9 {
		d := with(t, marked(0, 11), framed(0, "a", "b")+"torn")
		d.Fail(n)
		if n < 8 {
			refused(t, d, api.ErrIO)
			open(t, d, "a", "b")
		} else {
			has(t, open(t, d, "a", "b"), d, 1, "a", "b")
		}
	}
	// The second file of the cell is rewritten first.
	d := with(t, marked(0, 11), framed(0, "a"))
	ok(t, d.Put(3, ""), d.Sync(3))
	d.Fail(1)
	refused(t, d, api.ErrIO)
	open(t, d, "a")

	ok(t, d.Put(2, "x"), d.Put(3, "x"))
	refused(t, d, api.ErrCorrupt)
}

// P13.1: the next generation after the greatest one is 0.
func TestGenerationAfterTheGreatest(t *testing.T) {
	d := with(t, marked(math.MaxUint64, len(framed(math.MaxUint64, "a"))), "", framed(math.MaxUint64, "a"))
	l := open(t, d, "a")
	ok(t, l.Rewrite("b"))
	has(t, l, d, 0, "b")
	open(t, d, "b")
}

// Rule 1: the log that Open returns with an error has no records, and cannot
// be changed.
func TestNoLog(t *testing.T) {
	l, _, _ := Open(with(t, "x"))
	for i, e := range []api.Errno{l.Append("a"), l.Append(strings.Repeat("x", MaxRecord+1)), l.Sync(), l.Rewrite(), l.Rewrite("a")} {
		if e != api.ErrInval {
			t.Errorf("call %d: %d", i, e)
		}
	}
	if l.Records() != 0 || l.Size() != 0 || l.Gen() != 0 {
		t.Errorf("%d, %d, %d", l.Records(), l.Size(), l.Gen())
	}
}

// Rule 5: a list is neither changed nor kept.
func TestLists(t *testing.T) {
	d := disk.New(1000)
	l := open(t, d)
	list := append(make([]string, 0, 9), "a", "b")
	ok(t, l.Rewrite(list...), l.Append("c"))
	if !slices.Equal(list[:9], []string{"a", "b", "", "", "", "", "", "", ""}) {
		t.Errorf("%q", list[:9])
	}
	clear(list[:9])
	l, got, e := Open(d)
	ok(t, e)
	clear(got)
	ok(t, l.Sync())
	open(t, d, "a", "b", "c")
}

// step is a call of a log: an Append of list[0], a Sync or a Rewrite.
type step struct {
	call byte // a, s or r
	list []string
}

// history is what may be there after a crash: the synced records, followed by
// the first ones of those appended since, or those of a Rewrite that failed.
type history struct {
	synced, since []string
	next          []string
	failed        bool // whether there is such a Rewrite
}

// all returns all records.
func (h history) all() []string { return slices.Concat(h.synced, h.since) }

// allows reports whether these may be the records after a crash.
func (h history) allows(list []string) bool {
	if h.failed && slices.Equal(list, h.next) {
		return true
	}
	n := len(list)
	return n >= len(h.synced) && n <= len(h.all()) && slices.Equal(list, h.all()[:n])
}

// make makes a call, and returns what may be there after it.
func (s step) make(l *Log, h history) (history, api.Errno) {
	switch s.call {
	case 'a':
		e := l.Append(s.list[0])
		if e == api.OK {
			h.since = append(slices.Clone(h.since), s.list[0])
		}
		return h, e
	case 's':
		e := l.Sync()
		if e == api.OK {
			h = history{synced: h.all()}
		}
		return h, e
	}
	e := l.Rewrite(s.list...)
	if e == api.OK {
		return history{synced: s.list}, e
	}
	h.next, h.failed = s.list, true
	return h, e
}

// steps returns the calls that a text names: a letter or digit is appended,
// a dot is a Sync, and a slash a Rewrite with the letters up to the next one.
func steps(text string) []step {
	var l []step
	for i := 0; i < len(text); i++ {
		switch text[i] {
		case '.':
			l = append(l, step{call: 's'})
		case '/':
			list, _, _ := strings.Cut(text[i+1:], "/")
			l = append(l, step{'r', strings.Split(list, "")})
			i += len(list) + 1
		default:
			l = append(l, step{'a', []string{text[i : i+1]}})
		}
	}
	return l
}

// runs calls use with the disk after the calls that a text names, of which each
// call of the disk fails in turn, and with the disk after all of them.
func runs(t *testing.T, text string, use func(d *disk.Disk, h history)) {
	t.Helper()
	for n := 0; ; n++ {
		d, h, e := disk.New(1<<16), history{}, api.OK
		l := open(t, d)
		d.Fail(n)
		for _, s := range steps(text) {
			h, e = s.make(l, h)
			if e != api.OK {
				break
			}
		}
		d.Fail(-1)
		use(d, h)
		if e == api.OK {
			return
		}
	}
}

// crashes calls use with a copy of the disk after each crash that may be.
func crashes(d *disk.Disk, use func(d *disk.Disk)) {
	var files []int // how many choices there are at most, for each one that is not durable
	total := 1
	for f := range disk.Files {
		if s, _ := d.Read(f); !d.Sure(f) {
			files = append(files, len(s)+2)
			total *= len(s) + 2
		}
	}
	for i := range total {
		var choice []int
		for _, n := range files {
			choice = append(choice, i%n)
			i /= n
		}
		c := d.Clone()
		c.Crash(choice...)
		use(c)
	}
}

// scenarios returns texts for runs.
func scenarios() []string {
	return []string{"", "a", "a.", "ab.c", "a.b.cd", "/xy/", "/xy/a", "ab/x/", "ab.c/xyz/d", "a.b/x/c.d/yz/e", "/x//y//z/", "a./" + "/b.", ".a..b"}
}

// left opens a log after a crash, and fails unless its records are allowed;
// it returns them.
func left(t *testing.T, d *disk.Disk, h history) []string {
	t.Helper()
	l, list, e := Open(d)
	if e != api.OK || !h.allows(list) {
		t.Fatalf("%d, %q; %q are synced, then %q, or %v: %q", e, list, h.synced, h.since, h.failed, h.next)
	}
	if l.Records() != len(list) || l.Size() != len(framed(l.Gen(), list...)) {
		t.Fatalf("%d records of %d bytes: %q", l.Records(), l.Size(), list)
	}
	return list
}

// P13.2: a crash at any call of the disk, with any choices; what is there then
// is there again, and the log is used as before.
func TestCrash(t *testing.T) {
	for _, text := range scenarios() {
		runs(t, text, func(d *disk.Disk, h history) {
			crashes(d, func(d *disk.Disk) {
				list := left(t, d, h)
				l := open(t, d.Clone(), list...)
				if e := l.Append("more"); e != api.OK {
					t.Fatalf("Append: %d", e)
				}
				d.Crash()
				l = open(t, d, list...)
				ok(t, l.Append("new"), l.Sync())
				d.Crash()
				open(t, d, append(list, "new")...)
			})
		})
	}
}

// P13.2: another crash during the Open after a crash.
func TestCrashDuringOpen(t *testing.T) {
	g := rand.New(rand.NewSource(2))
	for _, text := range scenarios() {
		runs(t, text, func(d *disk.Disk, h history) {
			crashes(d, func(d *disk.Disk) {
				want := left(t, d.Clone(), h)
				// It makes at most four calls for the cell and eight for a Rewrite.
				for n := range 13 {
					c := d.Clone()
					c.Fail(n)
					_, _, e := Open(c)
					if e == api.OK {
						return
					}
					if g.Intn(3) > 0 {
						c.Crash(g.Int(), g.Int(), g.Int())
					}
					open(t, c, want...)
				}
				t.Fatalf("Open always fails")
			})
		})
	}
}

// P13.1: a log that is opened again after an error, without a crash, has all
// records, or those of the Rewrite that failed.
func TestOpenAfterAnError(t *testing.T) {
	for _, text := range scenarios() {
		runs(t, text, func(d *disk.Disk, h history) {
			_, list, e := Open(d)
			if e != api.OK || !slices.Equal(list, h.all()) && !(h.failed && slices.Equal(list, h.next)) {
				t.Fatalf("%s: %d, %q", text, e, list)
			}
		})
	}
}

// anyStep returns any call of a log.
func anyStep(g *rand.Rand) step {
	s := step{list: []string{strings.Repeat("r", g.Intn(9))}}
	s.call = "aaassr"[g.Intn(6)]
	for range g.Intn(3) {
		s.list = append(s.list, strings.Repeat("w", g.Intn(9)))
	}
	return s
}

// reopened returns what may be there after a log was opened again, with these
// records.
func reopened(t *testing.T, h history, list []string, crash bool) history {
	t.Helper()
	switch {
	case crash && h.allows(list):
		// What a crash leaves is durable.
		return history{synced: list}
	case !crash && slices.Equal(list, h.all()):
		return history{synced: h.synced, since: h.since}
	case !crash && h.failed && slices.Equal(list, h.next):
		return history{synced: list}
	}
	t.Fatalf("crash: %v: %q; %q are synced, then %q, or %v: %q", crash, list, h.synced, h.since, h.failed, h.next)
	return h
}

// P13.2: any sequence of calls, errors, crashes, and logs that are opened
// again with and without a crash.
func TestAnySequence(t *testing.T) {
	g := rand.New(rand.NewSource(3))
	for range 4000 {
		d, h, crash := disk.New(1<<16), history{}, true
		for range 12 {
			l, list, e := Open(d)
			if e == api.ErrIO {
				// Open may have failed after a Rewrite with the same records.
				d.Crash(g.Int(), g.Int(), g.Int())
				crash = true
				d.Fail(-1)
				l, list, e = Open(d)
			}
			ok(t, e)
			h = reopened(t, h, list, crash)
			d.Fail(g.Intn(30))
			for e == api.OK {
				h, e = anyStep(g).make(l, h)
			}
			if crash = g.Intn(3) > 0; crash {
				d.Crash(g.Int(), g.Int(), g.Int())
			}
			d.Fail(g.Intn(20) - 10)
		}
	}
}

// P13.3: any byte of the disk is altered, in any way, after a crash at any
// call of the disk.
func TestOneAlteredByte(t *testing.T) {
	g := rand.New(rand.NewSource(4))
	for _, text := range scenarios() {
		runs(t, text, func(d *disk.Disk, h history) {
			for range 6 {
				c := d.Clone()
				c.Crash(g.Int(), g.Int(), g.Int())
				alter(t, c, h, func() byte { return byte(1 + g.Intn(255)) })
			}
		})
	}
	_, d := started(t)
	d.Crash(11)
	for by := range 255 {
		alter(t, d, history{synced: []string{"a"}, since: []string{"b"}}, func() byte { return byte(by + 1) })
	}
}

// P13.3: a crash has left no byte of the cell's second file, and any byte of
// the first one is altered: the records that were synced before are not lost.
func TestAlteredHalf(t *testing.T) {
	for _, rewrites := range []int{0, 1, 2, 3} {
		d, h := disk.New(1000), history{synced: []string{"x", "y"}, since: []string{"c"}}
		l := open(t, d)
		ok(t, l.Append("x"), l.Append("y"), l.Sync())
		for range rewrites {
			ok(t, l.Rewrite("x", "y"))
		}
		ok(t, l.Append("c"))
		d.Fail(4)
		if e := l.Sync(); e != api.ErrIO {
			t.Fatalf("Sync: %d", e)
		}
		d.Crash(1)
		if s, _ := d.Read(3); s != "" {
			t.Fatalf("the second file: %q", s)
		}
		open(t, d.Clone(), "x", "y", "c")
		for by := range 255 {
			alter(t, d, h, func() byte { return byte(by + 1) })
		}
	}
}

// P13.2: what a crash during the first mark leaves of its first file does not
// matter; P13.3: any other bytes there are reported.
func TestFirstMark(t *testing.T) {
	for _, text := range []string{half(1, marked(0, 11)), half(1, marked(1, 300)), half(1, "")} {
		for n := range len(text) {
			d := with(t, "", framed(0, "a"))
			ok(t, d.Put(2, text[:n]))
			l := open(t, d, "a")
			ok(t, l.Sync())
			has(t, l, d, 0, "a")
		}
	}
	for _, s := range []string{
		"\x00\x00\x00\x00", half(2, marked(3, 0))[:6], half(1, marked(0, 11)) + "x", half(1, marked(0, 11))[:11] + "\x00", "other bytes", half(0, ""),
	} {
		d := with(t, "", framed(0, "a"))
		ok(t, d.Put(2, s))
		before := *d
		refused(t, d, api.ErrCorrupt)
		if *d != before {
			t.Errorf("%q: the disk has changed", s)
		}
	}
}

// alter alters each byte of a disk in turn, and fails unless Open returns
// ErrCorrupt or records that are allowed.
func alter(t *testing.T, d *disk.Disk, h history, by func() byte) {
	t.Helper()
	for f := range disk.Files {
		s, _ := d.Read(f)
		for i := range len(s) {
			c := d.Clone()
			if !c.Spoil(f, i, by()) {
				t.Fatalf("there is no byte %d of file %d", i, f)
			}
			if _, _, e := Open(c.Clone()); e == api.ErrCorrupt {
				refused(t, c, api.ErrCorrupt)
				continue
			}
			list := left(t, c, h)
			c.Crash()
			open(t, c, list...)
		}
	}
}

// P13.3: an altered byte of a synced record is reported, and one of another
// record leaves those before it.
func TestAlteredRecords(t *testing.T) {
	list := []string{"a", "", "bcd", "e", "f"}
	for _, gen := range []uint64{0, 9} {
		for synced := range len(list) + 1 {
			n := len(framed(gen, list[:synced]...))
			text := framed(gen, list...)
			for i := range len(text) {
				for by := 1; by < 256; by++ {
					d := with(t, marked(gen, n), text, text)
					d.Spoil(int(gen%2), i, byte(by))
					if i < n {
						refused(t, d, api.ErrCorrupt)
						continue
					}
					whole := synced
					for len(framed(gen, list[:whole+1]...)) <= i {
						whole++
					}
					has(t, open(t, d, list[:whole]...), d, gen+1, list[:whole]...)
				}
			}
		}
	}
}

// P13.3: a record may contain what is the checksum of its frame when the
// length is altered; it is still no record then.
func TestAlteredLength(t *testing.T) {
	// A frame of 102 bytes of content, which would be 38 bytes.
	head, in := "\x01\x00\x00\x26", "\x00\x64"+strings.Repeat("x", 36)
	sum := seal.Frame(1, in)[len(head)+len(in):]
	if seal.Frame(1, in)[:len(head)] != head {
		t.Fatalf("another length")
	}
	record := in[2:] + sum + strings.Repeat("y", 60)
	for _, synced := range []bool{false, true} {
		d := disk.New(1000)
		l := open(t, d)
		ok(t, l.Append("a"), l.Sync(), l.Append(record))
		if synced {
			ok(t, l.Sync())
		}
		d.Crash(1000 - 1000%111 + 110)
		open(t, d.Clone(), "a", record)
		if !d.Spoil(0, 11+3, 0x40) {
			t.Fatalf("the length is not altered")
		}
		s, _ := d.Read(0)
		if parts, _ := seal.Scan(s); len(parts) != 2 || parts[1].In != in {
			t.Fatalf("not a frame of the altered length: %q", parts)
		}
		if synced {
			refused(t, d, api.ErrCorrupt)
		} else {
			open(t, d, "a")
		}
	}
}
