package cells

import (
	"testing"

	"chatelaine/api"
	"chatelaine/code"
	"chatelaine/disk"
	"chatelaine/seal"
	"chatelaine/twin"
)

// half returns what a file of a cell contains.
func half(version uint64, text string) string {
	var w code.Writer
	return seal.Frame(1, w.U(version).S(text).Text())
}

// with returns a disk whose files from first on are these.
func with(t *testing.T, first int, files ...string) *disk.Disk {
	t.Helper()
	d := disk.New(1000)
	for i, s := range files {
		if d.Put(first+i, s) != api.OK || d.Sync(first+i) != api.OK {
			t.Fatalf("file %d", first+i)
		}
	}
	return d
}

// files returns what the files of a disk contain.
func files(d *disk.Disk) [disk.Files]string {
	var l [disk.Files]string
	for f := range l {
		l[f], _ = d.Read(f)
	}
	return l
}

// opens fails unless Open returns a cell with this text.
func opens(t *testing.T, d *disk.Disk, first int, want string) *twin.Cell {
	t.Helper()
	c, text, e := Open(d, first)
	if c == nil || text != want || e != api.OK {
		t.Fatalf("%v, %q, %d; not %q", c, text, e, want)
	}
	return c
}

// refused fails unless Open returns this error, and changes nothing.
func refused(t *testing.T, d *disk.Disk, first int, want api.Errno) {
	t.Helper()
	before := files(d)
	if c, text, e := Open(d, first); c != nil || text != "" || e != want || files(d) != before {
		t.Fatalf("%v, %q, %d; not %d; %q before, and now %q", c, text, e, want, before, files(d))
	}
}

// P12.1: a cell is opened as layer 12 does, with its errors.
func TestOpen(t *testing.T) {
	for first := range disk.Files - 1 {
		d := disk.New(1000)
		c := opens(t, d, first, "")
		if e := c.Write("text"); e != api.OK {
			t.Fatalf("Write: %d", e)
		}
		opens(t, d, first, "text")
		for i := range 2 {
			d.Spoil(first+i, 5, 1)
			c := d.Clone()
			c.Fail(0)
			refused(t, c, first, api.ErrIO)
			opens(t, d, first, "text") // and the file is rewritten
		}
		d.Spoil(first, 5, 1)
		d.Spoil(first+1, 5, 1)
		refused(t, d, first, api.ErrCorrupt)
	}
	for _, first := range []int{-1, disk.Files - 1, disk.Files} {
		refused(t, disk.New(1000), first, api.ErrInval)
	}
}

// P6: an empty cell that was not always empty is reported; what a crash during
// the first Write leaves is not.
func TestEmpty(t *testing.T) {
	whole := half(1, "text")
	for n := range len(whole) {
		opens(t, with(t, 0, whole[:n]), 0, "")
	}
	for i := range len(whole) {
		for by := 1; by < 256; by++ {
			b := []byte(half(2, "text"))
			b[i] ^= byte(by)
			refused(t, with(t, 0, string(b)), 0, api.ErrCorrupt)
		}
	}
	for _, s := range []string{"\x00\x00\x00\x00", half(2, "text")[:6], whole + "x", half(0, "text"), "other bytes"} {
		refused(t, with(t, 1, s), 1, api.ErrCorrupt)
	}
}
