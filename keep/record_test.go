package keep

import (
	"math"
	"slices"
	"strings"
	"testing"

	"chatelaine/accept"
	"chatelaine/api"
	"chatelaine/ballot"
	"chatelaine/code"
	"chatelaine/disk"
	"chatelaine/msg"
	"chatelaine/twin"
	"chatelaine/wal"
)

// logged fails unless the log of a disk has exactly these records.
func logged(t *testing.T, d *disk.Disk, want ...string) {
	t.Helper()
	_, list, e := wal.Open(d.Clone())
	if e != api.OK || !slices.Equal(list, want) {
		t.Fatalf("%d, %x; not %x", e, list, want)
	}
}

// P17.1: the records of each call.
func TestRecords(t *testing.T) {
	is := replies(t)
	d := disk.New(1 << 16)
	s := open(t, d, false)
	var want []string
	more := func(record string) {
		t.Helper()
		want = append(want, record)
		logged(t, d, want...)
	}
	is(s.Prepare(1, of(3, 1, 2), 0))(msg.Promise, 1, 2)
	more("\x01\x01\x01\x02")
	is(s.Accept(0, at(of(3, 300, 11), 5, "abc")))(msg.Accepted, 300, 11)
	more("\x02\x00\x05\xfc\x01\x2c\x0b\x03abc")
	is(s.Accept(0, at(of(3, 0, 0), 5, "abc")))(msg.Refuse, 300, 11)
	is(s.Accept(1, at(of(3, 2, 2), 300, "")))(msg.Accepted, 2, 2)
	more("\x02\x01\xfc\x01\x2c\x02\x02\x00")
	is(s.Ask(1, of(3, 2, 2), 10, 20))(msg.Grant, 2, 2)
	more("\x03\x01\x02\x02\x04\x1e")
	is(s.Ask(1, of(3, 2, 2), 10, 20))(msg.Grant, 2, 2)
	is(s.Ask(1, of(3, 2, 2), 10, 19))(msg.Grant, 2, 2)
	logged(t, d, want...)
	is(s.Ask(1, of(3, 4, 3), 10, 19))(msg.Grant, 4, 3) // only the ballot is new
	more("\x03\x01\x04\x03\x04\x1e")
	is(s.Ask(0, of(0, 300, 11), 0, 0))(msg.Grant, 300, 11)
	more("\x03\x00\xfc\x01\x2c\x0b\x01\x00")
	is(s.Accept(0, at(of(3, 301, 0), 0, "?")))(msg.Accepted, 301, 0) // only the ballot is new
	before := state(t, s)
	if got := state(t, open(t, d, false)); got != before {
		t.Errorf("%x, not %x", got, before)
	}
}

// P17.1: an acceptor that has neither promised nor accepted a ballot may have
// entries and a grant.
func TestRecordsWithoutBallots(t *testing.T) {
	is := replies(t)
	d := disk.New(1 << 16)
	s := open(t, d, false)
	is(s.Prepare(0, of(1, 0, 0), 0))(msg.Promise, 0, 0)
	is(s.Accept(0, at(of(1, 0, 0), 1, "x")))(msg.Accepted, 0, 0)
	is(s.Accept(0, at(of(1, 0, 0), 0, "x")))(msg.Accepted, 0, 0)
	is(s.Ask(0, of(11, 0, 0), 0, 0))(msg.Grant, 0, 0)
	logged(t, d, "\x02\x00\x01\x00\x00\x01x", "\x03\x00\x00\x00\x0c\x00")
	ok(t, s.Fold(1, 1, ""))
	logged(t, d, "\x02\x00\x01\x00\x00\x01x", "\x03\x00\x00\x00\x0c\x00", "\x04\x01\x01\x00")
	before := state(t, s)
	if got := state(t, open(t, d, false)); got != before {
		t.Errorf("%x, not %x", got, before)
	}
}

// P17.1: what Fold writes: subtree by subtree the image, the entries in the
// order of their ballots and then of their slots, the ballot and the grant.
func TestRecordsOfFold(t *testing.T) {
	is := replies(t)
	d := disk.New(1 << 16)
	s := open(t, d, false)
	for _, c := range []struct {
		sub, slot int
		c         uint64
		n         int
	}{
		{1, 9, 1, 0}, {1, 4, 1, 0}, {1, 7, 1, 0}, {1, 2, 1, 5}, {1, 8, 2, 0}, {1, 3, 2, 1}, {1, 4, 2, 1}, {0, 2, 1, 1}, {0, 1, 1, 1},
	} {
		is(s.Accept(c.sub, at(of(1, c.c, c.n), c.slot, "x")))(msg.Accepted, c.c, c.n)
	}
	is(s.Prepare(1, of(1, 7, 1), 0))(msg.Promise, 7, 1)
	is(s.Ask(1, of(4, 8, 4), 0, 60))(msg.Grant, 8, 4)
	is(s.Prepare(1, of(4, 9, 4), 0))(msg.Promise, 9, 4)
	first := []string{"\x02\x00\x01\x01\x01\x01x", "\x02\x00\x02\x01\x01\x01x", "\x01\x00\x01\x01"}
	rest := []string{"\x01\x01\x09\x04", "\x03\x01\x09\x04\x05\x3c"}
	ok(t, s.Fold(1, 1, "image"))
	logged(t, d, slices.Concat(first, []string{
		"\x04\x01\x01\x05image", "\x02\x01\x07\x01\x00\x01x", "\x02\x01\x09\x01\x00\x01x", "\x02\x01\x02\x01\x05\x01x",
		"\x02\x01\x08\x02\x00\x01x", "\x02\x01\x03\x02\x01\x01x", "\x02\x01\x04\x02\x01\x01x",
	}, rest)...)
	before := state(t, s)
	d.Crash()
	s = open(t, d, false)
	if state(t, s) != before {
		t.Errorf("%x, not %x", state(t, s), before)
	}
	ok(t, s.Fold(1, 300, "next"), s.Fold(1, 300, "?"))
	logged(t, d, slices.Concat(first, []string{"\x04\x01\xfc\x01\x2c\x04next"}, rest)...)
	ok(t, s.Fold(0, 2, ""))
	logged(t, d, slices.Concat([]string{"\x04\x00\x02\x00", "\x01\x00\x01\x01", "\x04\x01\xfc\x01\x2c\x04next"}, rest)...)
	before = state(t, s)
	d.Crash()
	if got := state(t, open(t, d, false)); got != before {
		t.Errorf("%x, not %x", got, before)
	}
}

// with returns a disk whose log has these records.
func with(t *testing.T, records ...string) *disk.Disk {
	t.Helper()
	d := disk.New(1 << 21)
	l, _, e := wal.Open(d)
	ok(t, e)
	for _, r := range records {
		ok(t, l.Append(r))
	}
	ok(t, l.Sync())
	return d
}

// written returns what a Writer has written.
func written(write func(w *code.Writer)) string {
	var w code.Writer
	write(&w)
	return w.Text()
}

// P17.1: records of another form, alone, and after and before others.
func TestWrongRecords(t *testing.T) {
	number := func(n int) string { return written(func(w *code.Writer) { w.N(n) }) }
	good := []string{"\x01\x00\x01\x01", "\x02\x01\x05\x01\x01\x01x", "\x03\x01\x01\x01\x01\x09", "\x04\x00\x03\x05image"}
	wrong := []string{
		"", "\x00", "\x05", "\xff", "\x00\x00\x01\x01", "\x05\x00\x01\x01", "\xfc\x00\x01\x00\x01\x01",
		"\x01\x02\x01\x01", "\x02\x02\x05\x01\x01\x01x", "\x03\x02\x01\x01\x01\x09", "\x04\x02\x03\x05image", // there is no such subtree
		"\x01\x00\x01\x0c", "\x01\x00\x00\x01", // there is no such ballot
		"\x02\x00\x01\x00\x01\x01x", "\x02\x00" + number(api.MaxSlot+1) + "\x01\x01\x01x",
		"\x03\x00\x01\x01\x00\x00", "\x03\x00\x01\x01\x00\x09", "\x03\x00\x01\x01\x0d\x09", "\x03\x00\x01\x01\x01" + number(api.MaxTime+1),
		"\x04\x00\x00\x00", "\x04\x00\x00\x05image", "\x04\x00" + number(api.MaxSlot+1) + "\x00",
		"\x04\x00\x04" + number(api.MaxImage+1) + strings.Repeat("x", api.MaxImage+1),
	}
	for _, r := range good {
		wrong = append(wrong, r+"\x00", r+"\xff")
		for n := range len(r) {
			wrong = append(wrong, r[:n])
		}
	}
	for _, r := range good {
		if s, e := Open(with(t, r), false, 2); s == nil || e != api.OK {
			t.Errorf("%x: %v, %d", r, s, e)
		}
	}
	for _, r := range wrong {
		for _, l := range [][]string{{r}, append(slices.Clone(good), r), append([]string{r}, good...)} {
			refused(t, with(t, l...), false, 2, api.ErrCorrupt)
		}
		d := with(t, r)
		ok(t, d.Append(0, "torn"))
		refused(t, d, false, 2, api.ErrCorrupt)
	}
	refused(t, with(t, "\x01\x01\x01\x01"), false, 1, api.ErrCorrupt)
}

// P17.1: records that a store does not write, since an acceptor does nothing
// of that kind.
func TestImpossibleRecords(t *testing.T) {
	for _, l := range [][]string{
		{"\x01\x00\x02\x02", "\x01\x00\x02\x01"},                                  // a lesser ballot is promised
		{"\x01\x00\x02\x02", "\x02\x00\x01\x02\x01\x01x"},                         // accepted
		{"\x02\x00\x01\x02\x02\x01x", "\x03\x00\x01\x0b\x01\x09"},                 // granted
		{"\x03\x00\x01\x01\x01\x09", "\x03\x00\x02\x01\x02\x08"},                  // granted to another node too early
		{"\x04\x00\x03\x05image", "\x04\x00\x03\x05image"},                        // the same image again
		{"\x04\x00\x03\x05image", "\x04\x00\x02\x05other"},                        // an older image
		append(fullLog(), "\x02\x00\x00\x02\x02\x00", "\x02\x00\xfa\x02\x02\x00"), // too many entries
	} {
		refused(t, with(t, l...), false, 2, api.ErrCorrupt)
		if s, e := Open(with(t, l[:len(l)-1]...), false, 2); s == nil || e != api.OK {
			t.Errorf("%x: %v, %d", l, s, e)
		}
	}
}

// fullLog returns the records of MaxList entries.
func fullLog() []string {
	var l []string
	for i := range msg.MaxList {
		l = append(l, written(func(w *code.Writer) { w.N(2, 0, i+1).U(1).N(1).S("") }))
	}
	return l
}

// P17.1: what Open makes of records, also where the ballots or the slots are
// the greatest ones.
func TestReplay(t *testing.T) {
	d := with(t,
		"\x04\x01\x07\x05image", "\x02\x01\x07\x01\x01\x01x", "\x02\x01\x08\x01\x02\x01y", "\x02\x01\x08\x03\x02\x01z",
		"\x03\x01\x03\x03\x04\x28", "\x03\x01\x03\x03\x05\x28", "\x01\x01\x04\x00",
		written(func(w *code.Writer) { w.N(2, 0, api.MaxSlot).U(math.MaxUint64).N(11).S("last") }),
		written(func(w *code.Writer) { w.N(3, 0).U(math.MaxUint64).N(11).N(12, api.MaxTime) }),
	)
	s := open(t, d, false)
	image(t, s, 0, 0, "")
	image(t, s, 1, 7, "image")
	zero, one := s.Acceptor(0), s.Acceptor(1)
	if node, end := one.Holder(); node != 4 || end != 40 || one.Promised() != (ballot.Ballot{C: 4}) || !slices.Equal(one.List(), []msg.Entry{entry(8, 3, 2, "z")}) {
		t.Errorf("%v", one)
	}
	if node, end := zero.Holder(); node != 11 || end != api.MaxTime || !slices.Equal(zero.List(), []msg.Entry{entry(api.MaxSlot, math.MaxUint64, 11, "last")}) {
		t.Errorf("%v", zero)
	}
}

// P17.1: the text of a witness's cell.
func TestCell(t *testing.T) {
	is := replies(t)
	d := disk.New(1 << 16)
	s := open(t, d, true)
	is(s.Accept(1, at(of(3, 300, 11), 5, "abc")))(msg.Accepted, 300, 11)
	is(s.Ask(1, of(3, 301, 3), 1, 20))(msg.Grant, 301, 3)
	ok(t, s.Sync())
	want := "\x00\x00\x00\x00\x00\x00" + "\xfc\x01\x2d\x03\x00\x01\x05\xfc\x01\x2c\x0b\x08" + accept.Digest("abc") + "\x04\x15"
	if _, got, e := twin.Open(d.Clone(), 0); e != api.OK || got != want {
		t.Errorf("%x, %d, not %x", got, e, want)
	}
	ok(t, s.Fold(1, 5, "image"), s.Sync())
	want = "\x00\x00\x00\x00\x00\x00" + "\xfc\x01\x2d\x03\x05\x00\x04\x15"
	if _, got, e := twin.Open(d.Clone(), 0); e != api.OK || got != want {
		t.Errorf("%x, %d, not %x", got, e, want)
	}
	for f := 2; f < disk.Files; f++ {
		if s, _ := d.Read(f); s != "" {
			t.Errorf("file %d: %x", f, s)
		}
	}
}

// P17.1: a cell of another form.
func TestWrongCells(t *testing.T) {
	one := "\x02\x01\x00\x01\x05\x02\x01\x08" + "12345678" + "\x04\x09"
	wrong := []string{"", "\xff", one, one + one + "\x00", one + one + one, one + "\x00", "\x00\x01\x00\x00\x00\x00" + one, "\x00\x00\x00\x00\x00\x01" + one, strings.Replace(one, "\x08", "\x09x", 1) + one}
	for n := range len(one) {
		wrong = append(wrong, one+one[:n])
	}
	cell := func(text string) *disk.Disk {
		d := disk.New(1 << 16)
		c, _, e := twin.Open(d, 0)
		ok(t, e, c.Write(text))
		return d
	}
	if s := open(t, cell(one+one), true); put(s.Acceptor(0)) != one || put(s.Acceptor(1)) != one {
		t.Errorf("%v", s)
	}
	for _, text := range wrong {
		d := cell(text)
		refused(t, d, true, 2, api.ErrCorrupt)
		ok(t, d.Put(1, ""), d.Sync(1))
		refused(t, d, true, 2, api.ErrCorrupt)
	}
	refused(t, cell(one+one), true, 1, api.ErrCorrupt)
	refused(t, cell(one+one), true, 3, api.ErrCorrupt)
}
