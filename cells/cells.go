// Package cells opens the cells of a disk whose loss must not stay unnoticed.
package cells

import (
	"chatelaine/api"
	"chatelaine/disk"
	"chatelaine/seal"
	"chatelaine/twin"
)

// Open opens a cell as layer 12 does. It also returns ErrCorrupt if the cell
// is empty, but was not always.
func Open(d *disk.Disk, first int) (*twin.Cell, string, api.Errno) {
	c, text, e := twin.Open(d, first)
	if e != api.OK {
		return nil, "", e
	}
	s, _ := d.Read(first)
	// A crash during a later Write may leave the second file without bytes. If
	// the first one is altered then, the cell looks as if nothing had ever been
	// stored, and what it contained would be lost without an error.
	if c.Version() == 0 && !begun(s) {
		return nil, "", api.ErrCorrupt
	}
	return c, text, api.OK
}

// begun reports whether the first file of a cell contains no more than what a
// crash during the first Write leaves: a part of a frame with the version 1.
func begun(s string) bool {
	const version = 4 // where it is in the frame
	_, _, e := seal.Open(s)
	return e == api.ErrEnd && (len(s) <= version || s[version] == 1)
}
