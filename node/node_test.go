package node

import (
	"math"
	"slices"
	"strings"
	"testing"

	"chatelaine/api"
	"chatelaine/ballot"
	"chatelaine/code"
	"chatelaine/disk"
	"chatelaine/drift"
	"chatelaine/fault"
	"chatelaine/grid"
	"chatelaine/image"
	"chatelaine/keep"
	"chatelaine/learn"
	"chatelaine/locks"
	"chatelaine/msg"
	"chatelaine/path"
	"chatelaine/propose"
	"chatelaine/steal"
	"chatelaine/table"
)

// config returns a configuration of so many nodes in one region, of which a
// majority is a quorum, with two subtrees.
func config(nodes int) Config {
	most := grid.Kind{Zones: 1, Nodes: nodes/2 + 1}
	return Config{
		Grid: grid.Config{Regions: 1, Per: nodes, First: most, Second: most},
		Subs: []string{"/a", "/b"}, Term: 10, Every: 3, Rate: drift.Rate{P: 11, Q: 10}, Lease: 30,
		Policy: steal.Policy{Least: 50, Span: 20}, Patience: 40, Fold: 8,
	}
}

// withWitness returns a configuration of four nodes, of which node 3 is a
// witness.
func withWitness() Config {
	c := config(4)
	c.Grid.Witness = 8
	return c
}

// open0 opens a node on a disk.
func open0(t *testing.T, c Config, id int, d *disk.Disk) *Node {
	t.Helper()
	n, err := Open(c, id, d)
	if n == nil || err != nil {
		t.Fatalf("Open: %v, %v", n, err)
	}
	return n
}

// fresh opens a node on an empty disk.
func fresh(t *testing.T, c Config, id int) *Node {
	t.Helper()
	return open0(t, c, id, disk.New(1<<20))
}

// is fails unless both are equal.
func is[T comparable](t *testing.T, what string, got, want T) {
	t.Helper()
	if got != want {
		t.Fatalf("%s: %v, not %v", what, got, want)
	}
}

// flush flushes the node, which must be possible.
func flush(t *testing.T, n *Node) ([]msg.Msg, []Answer) {
	t.Helper()
	out, answers, e := n.Flush()
	is(t, "Flush", e, api.OK)
	for _, m := range out {
		is(t, "Check", m.Check(), api.OK)
		is(t, "From", m.From, n.id)
	}
	return out, answers
}

// sends fails unless the node sends exactly these messages, and answers nobody.
func sends(t *testing.T, n *Node, want ...msg.Msg) {
	t.Helper()
	got, answers := flush(t, n)
	for i := range want {
		want[i].From = n.id
	}
	if !slices.EqualFunc(got, want, msg.Same) || len(answers) > 0 {
		t.Fatalf("it sends\n%v and answers %v, not\n%v", got, answers, want)
	}
}

// to returns the message to each of these nodes.
func to(m msg.Msg, l ...int) []msg.Msg {
	var all []msg.Msg
	for _, m.To = range l {
		all = append(all, m)
	}
	return all
}

// ball returns a ballot.
func ball(c uint64, n int) ballot.Ballot { return ballot.Ballot{C: c, N: n} }

// from returns a message of a node to node 0 about subtree 0.
func from(node, kind int, b ballot.Ballot, slot int) msg.Msg {
	return msg.Msg{Kind: kind, From: node, Ballot: b, Slot: slot}
}

// at returns the path with a text.
func at(s string) path.Path {
	p, err := path.Parse(s)
	if err != nil {
		panic(err)
	}
	return p
}

// opens returns the text of an Open.
func opens(client, seq int) string {
	return table.Cmd{Kind: table.Open, Client: client, Seq: seq}.Text()
}

// acquires returns the text of an Acquire.
func acquires(client, seq, session int, p string) string {
	return table.Cmd{Kind: table.Acquire, Client: client, Seq: seq, Session: session, Path: at(p), Excl: true, Wait: true}.Text()
}

// bytes returns the content of a table.
func bytes(t *table.Table) string {
	var w code.Writer
	t.Put(&w)
	return w.Text()
}

// fails fails unless the error has this text.
func fails(t *testing.T, err error, want string) {
	t.Helper()
	is(t, "the error", fault.Text(err), want)
}

// P25.1: each error of a configuration, on both sides of the limits.
func TestCheck(t *testing.T) {
	for _, change := range []func(c *Config){
		func(c *Config) {},
		func(c *Config) { c.Term = 3 },
		func(c *Config) { c.Term = api.MaxTerm },
		func(c *Config) { c.Term, c.Every = 1, 1 },
		func(c *Config) { c.Every = 10 },
		func(c *Config) { c.Lease = 1 },
		func(c *Config) { c.Lease = api.MaxTerm },
		func(c *Config) { c.Patience = 1 },
		func(c *Config) { c.Patience = api.MaxTerm },
		func(c *Config) { c.Fold = 1 },
		func(c *Config) { c.Fold = 32 },
		func(c *Config) { c.Token, c.Counter = math.MaxUint64, math.MaxUint64 },
		func(c *Config) { c.Subs = []string{"/"} },
		func(c *Config) { c.Subs = []string{"/a", "/b", "/c", "/d"} },
	} {
		c := config(3)
		if change(&c); c.Check() != nil {
			t.Errorf("%v: %v", c, c.Check())
		}
	}
	const wrong = "config: code 12"
	for i, x := range []struct {
		change func(c *Config)
		want   string
	}{
		{func(c *Config) { c.Grid = grid.Config{} }, wrong},
		{func(c *Config) { c.Grid.First.Nodes = 1 }, wrong},
		{func(c *Config) { c.Subs = nil }, "config: route: code 12"},
		{func(c *Config) { c.Subs = []string{"/a", "/b", "/c", "/d", "/e"} }, "config: route: code 12"},
		{func(c *Config) { c.Subs[1] = "b" }, "config: route: path: code 10"},
		{func(c *Config) { c.Subs[1] = "/a/b" }, "config: route: code 11"},
		{func(c *Config) { c.Term, c.Every = 0, 0 }, wrong},
		{func(c *Config) { c.Term = api.MaxTerm + 1 }, wrong},
		{func(c *Config) { c.Term = math.MinInt }, wrong},
		{func(c *Config) { c.Every = 0 }, wrong},
		{func(c *Config) { c.Every = 11 }, wrong},
		{func(c *Config) { c.Rate = drift.Rate{} }, wrong},
		{func(c *Config) { c.Policy.Least = 0 }, wrong},
		{func(c *Config) { c.Policy.Span = 0 }, wrong},
		{func(c *Config) { c.Lease = 0 }, wrong},
		{func(c *Config) { c.Lease = api.MaxTerm + 1 }, wrong},
		{func(c *Config) { c.Patience = 0 }, wrong},
		{func(c *Config) { c.Patience = api.MaxTerm + 1 }, wrong},
		{func(c *Config) { c.Fold = 0 }, wrong},
		{func(c *Config) { c.Fold = 33 }, wrong},
		// The first one that applies.
		{func(c *Config) { c.Grid.Per, c.Subs = 0, nil }, wrong},
		{func(c *Config) { c.Subs, c.Fold = []string{"/a", "/a"}, 0 }, "config: route: code 11"},
	} {
		c := config(3)
		x.change(&c)
		if got := fault.Text(c.Check()); got != x.want {
			t.Errorf("%d: %s, not %s", i, got, x.want)
		}
		n, err := Open(c, -1, disk.New(1000))
		if got := fault.Text(err); n != nil || got != "node: "+x.want {
			t.Errorf("%d: %v, %s, not %s", i, n, got, x.want)
		}
	}
}

// P25.1: Open of a new disk.
func TestOpen(t *testing.T) {
	c := config(3)
	c.Token = 7
	n := fresh(t, c, 1)
	is(t, "Up", n.Up(), true)
	for sub, root := range c.Subs {
		is(t, "Role", n.Role(sub), propose.Idle)
		is(t, "Ballot", n.Ballot(sub), ballot.Ballot{})
		is(t, "Owner", n.Owner(sub), -1)
		is(t, "Ready", n.Ready(sub), false)
		is(t, "Done", n.Done(sub), 0)
		is(t, "Table", bytes(n.Table(sub)), bytes(table.New(at(root), 7)))
		is(t, "Log", len(n.Log(sub, 0, 10)), 0)
		is(t, "Holds", n.Holds(sub, 0), false)
		is(t, "Promised", n.Promised(sub), ballot.Ballot{})
	}
	is(t, "Did", len(n.Did()), 0)
	sends(t, n)
}

// P25.1: the errors of Open, in their order.
func TestErrorsOfOpen(t *testing.T) {
	spoilt := func() *disk.Disk {
		d := disk.New(1000)
		d.Put(2, "x")
		d.Put(3, "x")
		return d
	}
	for _, id := range []int{-1, 3, math.MaxInt, math.MinInt} {
		n, err := Open(config(3), id, spoilt())
		is(t, "node", n, nil)
		fails(t, err, "node: code 1")
	}
	n, err := Open(config(3), 0, spoilt())
	is(t, "node", n, nil)
	fails(t, err, "node: code 7")

	d := disk.New(1000)
	s, _ := keep.Open(d, false, 2)
	s.Prepare(0, from(1, msg.Prepare, ball(1, 1), 1), 0)
	s.Sync()
	d.Append(0, "rest")
	d.Sync(0)
	d.Fail(0)
	n, err = Open(config(3), 0, d)
	is(t, "node", n, nil)
	fails(t, err, "node: code 8")
	if !errIs(err, api.ErrIO) {
		t.Errorf("%v", err)
	}
}

// P26.5, P25.2: what the node has read is durable, so that it does not get lost
// any more.
func TestOpenSyncs(t *testing.T) {
	for fail := -1; fail < 6; fail++ {
		d := disk.New(1000)
		s, _ := keep.Open(d, false, 2)
		s.Prepare(0, from(1, msg.Prepare, ball(1, 1), 1), 0)
		s.Sync()
		synced, _ := d.Read(0)
		s.Prepare(0, from(1, msg.Prepare, ball(2, 1), 1), 0)
		all, _ := d.Read(0)
		d.Crash(len(all) - len(synced))
		d.Fail(fail)
		n, err := Open(config(3), 0, d)
		if fail >= 0 && fail < 5 {
			is(t, "node", n, nil)
			fails(t, err, "node: code 8")
			continue
		}
		is(t, "Promised", n.Promised(0), ball(2, 1))
		last := d.Clone()
		last.Spoil(0, len(all)-1, 1)
		_, err = Open(config(3), 0, last)
		fails(t, err, "node: code 7")
	}
	// An error of an image comes first.
	d := folded(t, "x")
	s, _ := keep.Open(d, false, 2)
	s.Prepare(0, from(1, msg.Prepare, ball(2, 1), 1), 0)
	d.Fail(0)
	_, err := Open(config(3), 0, d)
	fails(t, err, "node: code 7")
}

// errIs reports whether an error has that number.
func errIs(err error, e api.Errno) bool { return fault.Code(err) == e }

// folded returns a disk that stores an image of subtree 1 up to slot 5.
func folded(t *testing.T, text string) *disk.Disk {
	t.Helper()
	d := disk.New(1 << 20)
	s, e := keep.Open(d, false, 2)
	is(t, "keep.Open", e, api.OK)
	is(t, "Fold", s.Fold(1, 5, text), api.OK)
	return d
}

// P25.1, P25.3: a stored image is the table; any other one is ErrCorrupt.
func TestOpenOfImage(t *testing.T) {
	full := table.New(at("/b"), 3)
	full.Apply(opens(1, 1))
	n := open0(t, config(3), 0, folded(t, image.Write(full, 5)))
	is(t, "Table", bytes(n.Table(1)), bytes(full))
	is(t, "Done", n.Done(1), 5)
	is(t, "Done", n.Done(0), 0)
	is(t, "Table", bytes(n.Table(0)), bytes(table.New(at("/a"), 0)))

	good := image.Write(full, 5)
	for _, text := range []string{
		"", "x", good[:len(good)-1], good + "x",
		image.Write(full, 4), image.Write(full, 6), image.Write(table.New(at("/a"), 3), 5),
		image.Write(table.New(at("/b/c"), 3), 5), image.Write(table.New(at("/"), 3), 5),
	} {
		n, err := Open(config(3), 0, folded(t, text))
		is(t, "node", n, nil)
		fails(t, err, "node: code 7")
	}
	// Without the subtree, its image is not one that may be stored.
	c := config(3)
	c.Subs = c.Subs[:1]
	_, err := Open(c, 0, folded(t, good))
	fails(t, err, "node: code 7")
}

// P25.1: what a witness is not asked for, and what does not exist.
func TestNothing(t *testing.T) {
	witness := fresh(t, withWitness(), 3)
	witness.Handle(msg.Msg{Kind: msg.Prepare, From: 1, To: 3, Ballot: ball(4, 1), Slot: 1}, 0)
	is(t, "Promised", witness.Promised(0), ball(4, 1))
	is(t, "Promised", witness.Promised(1), ballot.Ballot{})
	is(t, "Up", witness.Up(), true)
	other := fresh(t, config(3), 0)
	var none *Node
	is(t, "Up", none.Up(), false)
	down := fresh(t, config(3), 0)
	down.down = true
	for _, x := range []struct {
		n    *Node
		sub  int
		want api.Errno
	}{
		{witness, 0, api.ErrInval}, {witness, 1, api.ErrInval}, {witness, 2, api.ErrInval}, {witness, -1, api.ErrInval},
		{other, -1, api.ErrInval}, {other, 2, api.ErrInval}, {other, math.MaxInt, api.ErrInval}, {other, math.MinInt, api.ErrInval},
		{none, 0, api.ErrDown}, {none, -1, api.ErrDown}, {down, 0, api.ErrDown}, {down, -1, api.ErrDown},
	} {
		n, sub := x.n, x.sub
		is(t, "Role", n.Role(sub), 0)
		is(t, "Ballot", n.Ballot(sub), ballot.Ballot{})
		is(t, "Owner", n.Owner(sub), -1)
		is(t, "Ready", n.Ready(sub), false)
		is(t, "Done", n.Done(sub), 0)
		is(t, "Table", n.Table(sub), nil)
		is(t, "Log", n.Log(sub, 0, 9) == nil, true)
		is(t, "Holds", n.Holds(sub, 0), false)
		if n != witness || sub != 0 {
			is(t, "Promised", n.Promised(sub), ballot.Ballot{})
		}
		is(t, "Steal", n.Steal(sub, 0), x.want)
		is(t, "Call", n.Call(sub, opens(1, 1), 0), x.want)
		is(t, "Call", n.Call(sub, "", 0), x.want)
		lock, place, e := n.Read(sub, 1, at("/a"), 0)
		is(t, "Read", lock, locks.Lock{})
		is(t, "Read", place, 0)
		is(t, "Read", e, x.want)
		is(t, "Did", len(n.Did()), 0)
	}
	for _, n := range []*Node{none, down} {
		n.Handle(from(1, msg.Prepare, ball(1, 1), 1), 0)
		n.Tick(1)
		out, answers, e := n.Flush()
		if out != nil || answers != nil || e != api.ErrDown {
			t.Errorf("%v, %v, %v", out, answers, e)
		}
	}
}

// P25.1: Handle does nothing with a message that is not for the node.
func TestHandleOfOthers(t *testing.T) {
	good := msg.Msg{Kind: msg.Prepare, From: 1, Ballot: ball(4, 1), Slot: 1}
	for _, change := range []func(m *msg.Msg){
		func(m *msg.Msg) { m.To = 1 },
		func(m *msg.Msg) { m.To = 11 },
		func(m *msg.Msg) { m.To = -1 },
		func(m *msg.Msg) { m.From = 0 },
		func(m *msg.Msg) { m.From = 3 },
		func(m *msg.Msg) { m.From = -1 },
		func(m *msg.Msg) { m.Sub = 2 },
		func(m *msg.Msg) { m.Sub = -1 },
		func(m *msg.Msg) { m.Kind = 0 },
		func(m *msg.Msg) { m.Kind = 14 },
		func(m *msg.Msg) { m.Slot = -1 },
		func(m *msg.Msg) { m.Ballot.N = 12 },
	} {
		n := fresh(t, config(3), 0)
		m := good
		change(&m)
		n.Handle(m, 0)
		sends(t, n)
		is(t, "Promised", n.Promised(0), ballot.Ballot{})
	}
	n := fresh(t, config(3), 0)
	n.Handle(good, 0)
	sends(t, n, msg.Msg{Kind: msg.Promise, To: 1, Ballot: ball(4, 1)})
	is(t, "Promised", n.Promised(0), ball(4, 1))
	good.Sub = 1
	n.Handle(good, 0)
	sends(t, n, msg.Msg{Kind: msg.Promise, To: 1, Sub: 1, Ballot: ball(4, 1)})
}

// P25.1: after an error of storing, Flush returns it and sends nothing, and the
// node is down. The disk fails at every call that it makes.
func TestErrorsOfFlush(t *testing.T) {
	for _, id := range []int{0, 3} {
		failed := 0
		for at := 0; ; at++ {
			d := disk.New(1 << 20)
			n := open0(t, withWitness(), id, d)
			d.Fail(at)
			n.Handle(msg.Msg{Kind: msg.Prepare, From: 1, To: id, Ballot: ball(1, 1), Slot: 1}, 0)
			n.Handle(msg.Msg{Kind: msg.Accept, From: 1, To: id, Ballot: ball(1, 1), Slot: 1, Text: opens(1, 1)}, 0)
			n.Handle(msg.Msg{Kind: msg.Ask, From: 1, To: id, Ballot: ball(1, 1)}, 0)
			n.Steal(1, 0)
			is(t, "Up", n.Up(), true)
			out, answers, e := n.Flush()
			if e == api.OK {
				is(t, "messages", len(out) >= 3, true)
				break
			}
			failed++
			if e != api.ErrIO || out != nil || answers != nil {
				t.Fatalf("%v, %v, %d", out, answers, e)
			}
			is(t, "Up", n.Up(), false)
			is(t, "Steal", n.Steal(0, 0), api.ErrDown)
			is(t, "Call", n.Call(0, opens(1, 1), 0), api.ErrDown)
			is(t, "Did", len(n.Did()), 0)
			_, _, e = n.Flush()
			is(t, "Flush", e, api.ErrDown)
			d.Crash()
			open0(t, withWitness(), id, d)
		}
		is(t, "enough failures", failed >= 4, true)
	}
}

// P25.1: after an error of storing, nothing more is stored.
func TestNothingIsStoredAfterAnError(t *testing.T) {
	d := disk.New(1 << 20)
	n := open0(t, config(3), 0, d)
	prepare := from(1, msg.Prepare, ball(1, 1), 1)
	n.Handle(prepare, 0)
	sends(t, n, msg.Msg{Kind: msg.Promise, To: 1, Ballot: ball(1, 1)})
	before := d.Clone()
	d.Fail(0)
	prepare.Ballot.C = 2
	n.Handle(prepare, 0)
	n.Handle(prepare, 0)
	n.Handle(msg.Msg{Kind: msg.Snap, From: 1, Slot: 1, Text: image.Write(table.New(at("/a"), 0), 1)}, 0)
	n.Steal(1, 0)
	_, _, e := n.Flush()
	is(t, "Flush", e, api.ErrIO)
	for f := range disk.Files {
		now, _ := d.Read(f)
		then, _ := before.Read(f)
		is(t, "the disk", now, then)
	}
}

// P25.1: an image that cannot be stored is an error of storing as well. What was
// executed is reported if it has been stored, since the image may contain it.
func TestErrorOfImage(t *testing.T) {
	c := config(1)
	c.Fold = 1
	lost, stored := 0, 0
	for at := 0; ; at++ {
		d := disk.New(1 << 20)
		n := open0(t, c, 0, d)
		n.Steal(0, 0)
		flush(t, n)
		d.Fail(at)
		is(t, "Call", n.Call(0, opens(1, 1), 0), api.OK)
		_, answers, e := n.Flush()
		did := n.Did()
		if e == api.OK {
			is(t, "answers", len(answers), 1)
			is(t, "Did", len(did), 1)
			break
		}
		is(t, "Flush", e, api.ErrIO)
		is(t, "answers", len(answers), 0)
		is(t, "Up", n.Up(), false)
		d.Crash()
		n = open0(t, c, 0, d)
		if len(did) == 0 {
			lost++
			is(t, "Done", n.Done(0), 0)
			continue
		}
		stored++
		n.Steal(0, 0)
		is(t, "Done", n.Done(0), 1)
		is(t, "sessions", len(n.Table(0).Sessions()), 1)
	}
	is(t, "enough failures", lost >= 5 && stored >= 5, true)
}

// P25.1: a disk without room.
func TestFullDisk(t *testing.T) {
	for _, id := range []int{0, 3} {
		n := open0(t, withWitness(), id, disk.New(0))
		sends(t, n)
		n.Handle(msg.Msg{Kind: msg.Prepare, From: 1, To: id, Ballot: ball(1, 1), Slot: 1}, 0)
		out, answers, e := n.Flush()
		if out != nil || answers != nil || e != api.ErrFull || n.Up() {
			t.Errorf("%v, %v, %d", out, answers, e)
		}
	}
}

// Rule 1: any numbers and texts are accepted.
func TestAnyArguments(t *testing.T) {
	numbers := []int{math.MinInt, -1, 0, 1, 2, api.MaxTime, api.MaxTime + 1, math.MaxInt}
	texts := []string{"", "x", opens(1, 1), strings.Repeat("x", 500)}
	for _, c := range []Config{config(1), config(3), withWitness()} {
		for _, id := range []int{0, c.Grid.Per - 1} {
			n := fresh(t, c, id)
			for _, a := range numbers {
				for _, b := range numbers {
					n.Steal(a, b)
					n.Tick(b)
					n.Read(a, b, path.Path{}, b)
					n.Log(a, b, a)
					n.Log(0, b, a)
					n.Holds(a, b)
					for _, text := range texts {
						n.Call(a, text, b)
					}
					for kind := range 16 {
						n.Handle(msg.Msg{Kind: kind, From: 1, To: id, Slot: a, Time: b, Text: texts[kind%4]}, b)
						n.Handle(msg.Msg{Kind: kind, From: 1 - id, To: id, Sub: a, Ballot: n.Ballot(0), Slot: a, Time: a, Text: texts[kind%4]}, b)
					}
					n.Flush()
				}
			}
		}
	}
}

// Rule 1: entries of slots that no node can have accepted do not keep an owner
// busy for ever.
func TestFarEntries(t *testing.T) {
	for _, slot := range []int{learn.MaxAhead, learn.MaxAhead + 1, api.MaxSlot} {
		n := fresh(t, config(3), 0)
		n.Steal(0, 0)
		m := from(1, msg.Promise, n.Ballot(0), 0)
		m.List = []msg.Entry{{Slot: slot, Ballot: ball(1, 1), Text: "x"}}
		n.Handle(m, 0)
		want := propose.Trying
		if slot <= learn.MaxAhead {
			want = propose.Owner
		}
		is(t, "Role", n.Role(0), want)
	}
}

// Rule 5: the node keeps nothing that was passed, and results are new memory.
func TestMemory(t *testing.T) {
	c := config(1)
	n := fresh(t, c, 0)
	c.Subs[0], c.Subs[1] = "/x", "/y"
	n.Steal(0, 0)
	n.Call(0, opens(1, 1), 0)
	flush(t, n)
	want := bytes(n.Table(0))
	n.Table(0).Apply(opens(2, 1))
	is(t, "Table", bytes(n.Table(0)), want)
	is(t, "root", n.Table(0).Root(), at("/a"))
	n.Log(0, 1, 9)[0].Text = "x"
	is(t, "Log", n.Log(0, 1, 9)[0].Text, opens(1, 1))

	m := from(1, msg.Accept, ball(1, 1), 1)
	three := fresh(t, config(3), 0)
	m.List = []msg.Entry{{Slot: 1, Text: "a"}, {Slot: 2, Text: "b"}}
	m.Kind = msg.Give
	three.Handle(m, 0)
	m.List[0].Text = "y"
	is(t, "Log", three.Log(0, 1, 1)[0].Text, "a")
}
