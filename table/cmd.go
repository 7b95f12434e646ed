package table

import (
	"chatelaine/api"
	"chatelaine/code"
	"chatelaine/path"
)

// MaxClient is the greatest number of a client.
const MaxClient = 64

// The kinds of commands.
const (
	Open = iota + 1
	Close
	Keep
	Acquire
	Release
	Watch
	Drain
	Expire
)

// most is the greatest number that is read, and longest the greatest number of
// bytes of a path's text.
const (
	most    = 1 << 40
	longest = 120
)

// Cmd is a command of a client, or an Expire, which belongs to no client.
type Cmd struct {
	Kind, Client, Seq, Session int
	Path                       path.Path
	Excl, Wait                 bool
	Count                      int
}

// Text returns the encoding of the command.
func (c Cmd) Text() string {
	var w code.Writer
	w.N(c.Kind, c.Client, c.Seq, c.Session).S(c.Path.Text())
	return w.B(c.Excl, c.Wait).N(c.Count).Text()
}

// Parse returns the command with that encoding.
func Parse(s string) (Cmd, api.Errno) {
	r := code.Read(s)
	var c Cmd
	c.Kind, c.Client, c.Seq, c.Session = r.N(Expire), r.N(MaxClient), r.N(most), r.N(most)
	p, err := path.Parse(r.S(longest))
	c.Excl, c.Wait, c.Count = r.B(), r.B(), r.N(most)
	switch {
	case r.Err() != api.OK:
		return Cmd{}, r.Err()
	case c.Kind == 0 || err != nil || r.Left() > 0:
		return Cmd{}, api.ErrForm
	case !c.fits(c.Client) || !c.fits(c.Seq):
		return Cmd{}, api.ErrRange
	}
	c.Path = p
	return c, api.OK
}

// fits reports whether n may be the client or the number of the command: only
// an Expire has none.
func (c Cmd) fits(n int) bool { return (n == 0) == (c.Kind == Expire) }

// hasPath reports whether the command is about a path of its table.
func (c Cmd) hasPath() bool {
	return c.Kind == Acquire || c.Kind == Release || c.Kind == Watch
}
