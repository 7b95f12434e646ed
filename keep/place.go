package keep

import (
	"chatelaine/accept"
	"chatelaine/api"
	"chatelaine/cells"
	"chatelaine/code"
	"chatelaine/disk"
	"chatelaine/twin"
	"chatelaine/wal"
)

// place is where the parts of a store are stored.
type place interface {
	// add stores the record of a call; sync makes it durable.
	add(record string) api.Errno
	// replace stores parts of which one has another image.
	replace(parts []part) api.Errno
	// sync makes the parts durable, as they are after all calls.
	sync(parts []part) api.Errno
}

// journal is the place of a node that is not a witness: a log.
type journal struct{ *wal.Log }

func (j journal) add(record string) api.Errno { return j.Append(record) }

func (j journal) replace(parts []part) api.Errno { return j.Rewrite(records(parts)...) }

func (j journal) sync([]part) api.Errno { return j.Sync() }

// openLog opens the store of a node that is not a witness.
func openLog(d *disk.Disk, subs int) (*Store, api.Errno) {
	log, list, e := wal.Open(d)
	if e != api.OK {
		return nil, e
	}
	parts := empty(false, subs)
	for _, record := range list {
		if !replay(parts, record) {
			return nil, api.ErrCorrupt
		}
	}
	return &Store{parts, journal{log}}, api.OK
}

// cell is the place of a witness, and whether it has another state than the
// parts.
type cell struct {
	*twin.Cell
	old bool
}

func (c *cell) add(string) api.Errno {
	c.old = true
	return api.OK
}

func (c *cell) replace([]part) api.Errno {
	c.old = true
	return api.OK
}

func (c *cell) sync(parts []part) api.Errno {
	if !c.old {
		return api.OK
	}
	var w code.Writer
	for _, p := range parts {
		p.Put(&w)
	}
	e := c.Write(w.Text())
	c.old = e != api.OK
	return e
}

// openCell opens the store of a witness.
func openCell(d *disk.Disk, subs int) (*Store, api.Errno) {
	c, text, e := cells.Open(d, 0)
	if e != api.OK {
		return nil, e
	}
	parts := empty(true, subs)
	if c.Version() > 0 && !read(parts, text) {
		return nil, api.ErrCorrupt
	}
	return &Store{parts, &cell{Cell: c}}, api.OK
}

// read reads the parts of a witness, and reports whether the text is them.
func read(parts []part, text string) bool {
	r := code.Read(text)
	for i := range parts {
		parts[i].Acceptor = accept.Get(r, true)
	}
	return r.Done() == api.OK
}
