package cluster

import (
	"math"
	"slices"
	"testing"

	"chatelaine/api"
	"chatelaine/ballot"
	"chatelaine/code"
	"chatelaine/disk"
	"chatelaine/drift"
	"chatelaine/fault"
	"chatelaine/grid"
	"chatelaine/locks"
	"chatelaine/msg"
	"chatelaine/net"
	"chatelaine/node"
	"chatelaine/path"
	"chatelaine/propose"
	"chatelaine/steal"
	"chatelaine/table"
)

// config returns a configuration of so many nodes in one region, of which a
// majority is a quorum.
func config(nodes int) node.Config {
	most := grid.Kind{Zones: 1, Nodes: nodes/2 + 1}
	return node.Config{
		Grid: grid.Config{Regions: 1, Per: nodes, First: most, Second: most},
		Subs: []string{"/a", "/b"}, Term: 10, Every: 3, Rate: drift.Rate{P: 11, Q: 10}, Lease: 30,
		Policy: steal.Policy{Least: 50, Span: 20}, Patience: 40, Fold: 8,
	}
}

// fresh returns a new cluster.
func fresh(t *testing.T, c node.Config) *Cluster {
	t.Helper()
	x, err := New(c, 1<<20)
	if x == nil || err != nil {
		t.Fatalf("New: %v, %v", x, err)
	}
	return x
}

// is fails unless both are equal.
func is[T comparable](t *testing.T, what string, got, want T) {
	t.Helper()
	if got != want {
		t.Fatalf("%s: %v, not %v", what, got, want)
	}
}

// at returns the path with a text.
func at(s string) path.Path {
	p, err := path.Parse(s)
	if err != nil {
		panic(err)
	}
	return p
}

// opens returns the text of an Open.
func opens(client, seq int) string {
	return table.Cmd{Kind: table.Open, Client: client, Seq: seq}.Text()
}

// bytes returns the content of a table.
func bytes(t *table.Table) string {
	var w code.Writer
	t.Put(&w)
	return w.Text()
}

// rounds performs so many Rounds.
func rounds(c *Cluster, n int) {
	for range n {
		c.Round()
	}
}

// answered fails unless these are the answers since the last time.
func answered(t *testing.T, c *Cluster, want ...Answer) {
	t.Helper()
	same := func(a, b Answer) bool {
		return a.Node == b.Node && a.Client == b.Client && a.Seq == b.Seq && a.Final == b.Final && table.Same(a.Reply, b.Reply)
	}
	if got := c.Answers(); !slices.EqualFunc(got, want, same) {
		t.Fatalf("answers %v, not %v", got, want)
	}
}

// opened returns the answer to an Open, at a node.
func opened(at, client, seq, session int) Answer {
	return Answer{at, node.Answer{Client: client, Seq: seq, Final: true, Reply: table.Reply{Session: session}}}
}

// Example 1.
func TestExample(t *testing.T) {
	c := fresh(t, config(3))
	is(t, "Steal", c.Steal(0, 0), api.OK)
	is(t, "Ready", c.Node(0).Ready(0), false)
	rounds(c, 4)
	is(t, "Ready", c.Node(0).Ready(0), true)
	is(t, "Ready", c.Node(0).Ready(1), false)
	is(t, "Owner", c.Node(2).Owner(0), 0)
	is(t, "Call", c.Call(1, 0, opens(5, 7)), api.OK)
	rounds(c, 4)
	answered(t, c, opened(1, 5, 7, 1))
	answered(t, c)
	rounds(c, 2)
	answered(t, c)
}

// Each of the nodes 0 and 1 owns one subtree of a single cluster, and the
// commands of both are executed by all nodes.
func TestDids(t *testing.T) {
	c := fresh(t, config(3))
	is(t, "Dids", len(c.Dids()), 0)
	c.Steal(0, 0)
	c.Steal(1, 1)
	rounds(c, 4)
	is(t, "Call", c.Call(0, 0, opens(1, 1)), api.OK)
	is(t, "Call", c.Call(1, 1, opens(2, 1)), api.OK)
	rounds(c, 2)
	first := node.Did{Sub: 0, Slot: 1, Text: opens(1, 1)}
	second := node.Did{Sub: 1, Slot: 1, Text: opens(2, 1)}
	is(t, "Dids", slices.Equal(c.Dids(), []Did{{0, first}, {1, second}}), true)
	is(t, "Dids", len(c.Dids()), 0)
	answered(t, c, opened(0, 1, 1, 1), opened(1, 2, 1, 1))
	rounds(c, 2)
	var others []Did
	for _, d := range c.Dids() {
		is(t, "the text", d.Text, opens(d.Sub+1, 1))
		others = append(others, d)
	}
	is(t, "Dids", len(others), 4)
}

// P26: what New returns, and its errors.
func TestNew(t *testing.T) {
	for _, nodes := range []int{1, 3, 4} {
		c := fresh(t, config(nodes))
		for i := range nodes {
			is(t, "Up", c.Node(i).Up(), true)
			is(t, "Now", c.Now(i), 0)
		}
		is(t, "Len", c.Net().Len(), 0)
		is(t, "Fits", c.Fits(), true)
		for _, i := range []int{-1, nodes, math.MaxInt, math.MinInt} {
			is(t, "Node", c.Node(i), nil)
			is(t, "Now", c.Now(i), 0)
		}
		is(t, "Send", c.Net().Send(net.Packet{From: 0, To: nodes - 1}), nodes > 1)
		is(t, "Send", c.Net().Send(net.Packet{From: 0, To: nodes}), false)
	}
	wrong := config(3)
	wrong.Fold = 0
	c, err := New(wrong, 100)
	is(t, "New", c, nil)
	is(t, "the error", fault.Text(err), "cluster: node: config: code 12")
	wrong.Grid = grid.Config{}
	c, err = New(wrong, 100)
	is(t, "New", c, nil)
	is(t, "the error", fault.Text(err), "cluster: node: config: code 12")
	wrong = config(3)
	wrong.Subs[0] = "a"
	_, err = New(wrong, 100)
	is(t, "the error", fault.Text(err), "cluster: node: config: route: path: code 10")
}

// P26: the disks have the given room.
func TestRoom(t *testing.T) {
	for _, room := range []int{math.MinInt, -1, 0, 10} {
		c, err := New(config(3), room)
		is(t, "New", err, nil)
		is(t, "Steal", c.Steal(0, 0), api.OK)
		is(t, "Node", c.Node(0), nil)
		is(t, "Len", c.Net().Len(), 0)
	}
}

// Rule 5: the configuration is a copy.
func TestConfig(t *testing.T) {
	given := config(3)
	c := fresh(t, given)
	given.Subs[0] = "/x"
	got := c.Config()
	is(t, "Subs", slices.Equal(got.Subs, []string{"/a", "/b"}), true)
	is(t, "Term", got.Term, 10)
	is(t, "Grid", got.Grid, given.Grid)
	got.Subs[0] = "/y"
	is(t, "Subs", c.Config().Subs[0], "/a")
	c.Crash(0)
	is(t, "Start", c.Start(0), nil)
	is(t, "the root", c.Node(0).Table(0).Root(), at("/a"))
}

// P26: Deliver lets the receiver handle the packet, and sends what it replies.
func TestDeliver(t *testing.T) {
	c := fresh(t, config(3))
	c.Steal(0, 0)
	is(t, "Len", c.Net().Len(), 2)
	for _, k := range []int{-1, 2, math.MaxInt, math.MinInt} {
		is(t, "Deliver", c.Deliver(k), false)
	}
	is(t, "Deliver", c.Deliver(1), true)
	is(t, "Len", c.Net().Len(), 2)
	is(t, "Promised", c.Node(2).Promised(0), ballot.Ballot{C: 1})
	is(t, "Promised", c.Node(1).Promised(0), ballot.Ballot{})
	p, _ := c.Net().Look(1)
	m, e := msg.Parse(p.Text)
	is(t, "Promise", e == api.OK && m.Kind == msg.Promise && p.From == 2 && p.To == 0, true)
	is(t, "Deliver", c.Deliver(1), true)
	is(t, "Ready", c.Node(0).Ready(0), true)

	// The receiver is down, the connection is cut, or the packet is no message.
	c.Crash(1)
	is(t, "Deliver", c.Deliver(0), true)
	is(t, "Len", c.Net().Len(), 0)
	c.Start(1)
	c.Net().Cut(0, 1, true)
	c.Steal(0, 1)
	is(t, "Len", c.Net().Len(), 2)
	is(t, "Deliver", c.Deliver(0), false)
	is(t, "Len", c.Net().Len(), 1)
	c.Net().Drop(0)
	c.Net().Send(net.Packet{From: 0, To: 2, Text: "x"})
	is(t, "Deliver", c.Deliver(0), true)
	is(t, "Len", c.Net().Len(), 0)
	// A packet that a node sent is for its receiver only.
	c.Net().Send(net.Packet{From: 0, To: 2, Text: msg.Msg{Kind: msg.Prepare, From: 0, To: 1, Ballot: ballot.Ballot{C: 9}}.Bytes()})
	is(t, "Deliver", c.Deliver(0), true)
	is(t, "Promised", c.Node(2).Promised(0), ballot.Ballot{C: 1})
}

// P26: Pass advances the clocks, and then each node that is up hears of it.
func TestPass(t *testing.T) {
	c := fresh(t, config(3))
	c.Pass(3, 2)
	for i, want := range []int{3, 2, 0} {
		is(t, "Now", c.Now(i), want)
	}
	is(t, "Fits", c.Fits(), false)
	c.Pass()
	c.Pass(-5, 0, 4, 9, 9)
	for i, want := range []int{3, 2, 4} {
		is(t, "Now", c.Now(i), want)
	}
	c.Pass(math.MaxInt, math.MinInt, api.MaxTime)
	for i, want := range []int{api.MaxTime, 2, api.MaxTime} {
		is(t, "Now", c.Now(i), want)
	}
	c = fresh(t, config(3))
	c.Pass(10, 11, 10)
	is(t, "Fits", c.Fits(), true)
	c.Pass(10, 11, 10)
	c.Pass(10, 12, 10)
	is(t, "Fits", c.Fits(), false)

	// A node that tries sends Prepare again; one that is down does nothing.
	c = fresh(t, config(3))
	for i := range 3 {
		c.Steal(i, 0)
	}
	c.Crash(1)
	before := c.Net().Len()
	c.Pass(1, 1, 1)
	is(t, "Len", c.Net().Len(), before+4)
	for k, from := range []int{0, 0, 2, 2} {
		p, _ := c.Net().Look(before + k)
		is(t, "From", p.From, from)
	}
	is(t, "Now", c.Now(1), 1)
	is(t, "Node", c.Node(1), nil)
}

// P26: a Round delivers what is in transit at its beginning, the oldest first,
// and then every clock advances by 1.
func TestRound(t *testing.T) {
	c := fresh(t, config(3))
	c.Round()
	c.Steal(0, 0)
	c.Net().Cut(0, 2, true)
	c.Round()
	is(t, "Ready", c.Node(0).Ready(0), false)
	is(t, "Len", c.Net().Len(), 3) // the Promise of node 1, and Prepare again
	for i := range 3 {
		is(t, "Now", c.Now(i), 2)
	}
	is(t, "Fits", c.Fits(), true)
	c.Round()
	is(t, "Ready", c.Node(0).Ready(0), true)

	// Node 1 promises one ballot after the other, which are in ascending order.
	c = fresh(t, config(3))
	for i := range 3 {
		m := msg.Msg{Kind: msg.Prepare, From: 2, To: 1, Ballot: ballot.Ballot{C: uint64(i + 1), N: 2}}
		c.Net().Send(net.Packet{From: 2, To: 1, Text: m.Bytes()})
	}
	c.Round()
	is(t, "Len", c.Net().Len(), 3)
	for i := range 3 {
		p, _ := c.Net().Look(i)
		m, _ := msg.Parse(p.Text)
		is(t, "Kind", m.Kind, msg.Promise)
		is(t, "Ballot", m.Ballot.C, uint64(i+1))
	}
}

// P26: the errors of Call, Steal, Read and Crash.
func TestErrors(t *testing.T) {
	c := fresh(t, config(3))
	use := func(i, sub int, text string, want ...api.Errno) {
		t.Helper()
		is(t, "Call", c.Call(i, sub, text), want[0])
		lock, place, e := c.Read(i, sub, 1, at("/a"))
		is(t, "Read", lock == locks.Lock{} && place == 0, true)
		is(t, "Read", e, want[1])
		is(t, "Steal", c.Steal(i, sub), want[2])
	}
	for _, i := range []int{-1, 3, math.MaxInt, math.MinInt} {
		use(i, 0, opens(1, 1), api.ErrInval, api.ErrInval, api.ErrInval)
		is(t, "Crash", c.Crash(i), api.ErrInval)
		is(t, "Fail", c.Fail(i, 0), api.ErrInval)
		is(t, "Start", fault.Text(c.Start(i)), "cluster: code 1")
		is(t, "Spoil", c.Spoil(i, 0, 0, 1), false)
	}
	use(0, 2, opens(1, 1), api.ErrInval, api.ErrInval, api.ErrInval)
	use(0, 0, "", api.ErrForm, api.ErrOwner, api.OK)
	use(1, 0, opens(1, 1), api.ErrOwner, api.ErrOwner, api.OK)
	is(t, "Start", fault.Text(c.Start(0)), "cluster: code 21")
	is(t, "Crash", c.Crash(0), api.OK)
	is(t, "Crash", c.Crash(0), api.ErrDown)
	use(0, 0, opens(1, 1), api.ErrDown, api.ErrDown, api.ErrDown)
	is(t, "Start", c.Start(0), nil)
	is(t, "Start", fault.Text(c.Start(0)), "cluster: code 21")
	is(t, "Up", c.Node(0).Up(), true)
}

// P26: Read calls the node with its clock.
func TestRead(t *testing.T) {
	c := fresh(t, config(1))
	c.Steal(0, 0)
	_, _, e := c.Read(0, 0, 1, at("/a"))
	is(t, "Read", e, api.ErrLease)
	c.Pass(5)
	c.Call(0, 0, opens(1, 1))
	c.Call(0, 0, table.Cmd{Kind: table.Acquire, Client: 1, Seq: 2, Session: 1, Path: at("/a")}.Text())
	lock, place, e := c.Read(0, 0, 1, at("/a"))
	is(t, "Read", lock == locks.Lock{Session: 1, Path: at("/a"), Token: 1} && place == 0 && e == api.OK, true)
	_, place, e = c.Read(0, 0, 2, at("/a"))
	is(t, "Read", place == -1 && e == api.OK, true)
	is(t, "Holds", c.Node(0).Holds(0, c.Now(0)), true)
	c.Crash(0)
	c.Start(0)
	_, _, e = c.Read(0, 0, 1, at("/a"))
	is(t, "Read", e, api.ErrOwner)
}

// P26: Crash takes a node down with these choices, and Start opens it again.
func TestCrash(t *testing.T) {
	for _, choice := range [][]int{nil, {0}, {3, 1, 4, 1, 5, 9, 2, 6}} {
		c := fresh(t, config(3))
		c.Steal(0, 0)
		rounds(c, 4)
		c.Call(0, 0, opens(1, 1))
		rounds(c, 4)
		is(t, "Crash", c.Crash(0, choice...), api.OK)
		is(t, "Node", c.Node(0), nil)
		c.Pass(20, 20, 20)
		is(t, "Now", c.Now(0), 28)
		is(t, "Start", c.Start(0), nil)
		is(t, "Role", c.Node(0).Role(0), propose.Idle)
		is(t, "Promised", c.Node(0).Promised(0), ballot.Ballot{C: 1})
		c.Steal(0, 0)
		is(t, "Ballot", c.Node(0).Ballot(0), ballot.Ballot{C: 2})
		rounds(c, 4)
		is(t, "Done", c.Node(0).Done(0), 1)
		is(t, "Ready", c.Node(0).Ready(0), true)
	}
	// The choices are those of the disk: a node that could not be flushed loses
	// everything, but what has been appended remains if that is chosen.
	c := fresh(t, config(3))
	c.disks[0].Append(0, "ab")
	c.Crash(0, 1)
	s, _ := c.disks[0].Read(0)
	is(t, "the file", s, "a")
}

// P26: if a node cannot be flushed, it is down and its disk crashes; nothing is
// sent, and nobody is answered.
func TestFail(t *testing.T) {
	failed := 0
	for at := 0; ; at++ {
		c := fresh(t, config(1))
		c.Steal(0, 0)
		is(t, "Fail", c.Fail(0, at), api.OK)
		is(t, "Call", c.Call(0, 0, opens(1, 1)), api.OK)
		if c.Node(0) != nil {
			answered(t, c, opened(0, 1, 1, 1))
			is(t, "Dids", len(c.Dids()), 1)
			break
		}
		failed++
		answered(t, c)
		is(t, "Dids", len(c.Dids()), 0)
		for f := range disk.Files {
			is(t, "Sure", c.disks[0].Sure(f), true)
		}
		is(t, "Call", c.Call(0, 0, opens(1, 1)), api.ErrDown)
		is(t, "Start", c.Start(0), nil)
		is(t, "Steal", c.Steal(0, 0), api.OK)
		is(t, "Ready", c.Node(0).Ready(0), true)
	}
	is(t, "enough failures", failed >= 5, true)

	c := fresh(t, config(3))
	c.Fail(0, 0)
	c.Steal(0, 0)
	is(t, "Len", c.Net().Len(), 0)
	c.Fail(1, 0)
	c.Start(0)
	c.Steal(0, 0)
	is(t, "Deliver", c.Deliver(0), true)
	is(t, "Len", c.Net().Len(), 1)
	is(t, "Node", c.Node(1), nil)
	// A Tick is such a call as well.
	c.Fail(0, 0)
	c.Net().Cut(0, 1, true)
	c.Net().Cut(2, 1, true)
	c.Deliver(0)
	c.Deliver(0)
	is(t, "Ready", c.Node(0).Ready(0), true)
	c.Pass(1)
	is(t, "Node", c.Node(0), nil)
}

// P26, P26.5: Start returns the error of the node, which stays down; Heal starts
// the others.
func TestStartOfSpoilt(t *testing.T) {
	c := fresh(t, config(3))
	c.Steal(0, 0)
	c.Steal(1, 0)
	is(t, "Spoil", c.Spoil(0, 0, 0, 1), false) // It is up.
	c.Crash(0)
	c.Crash(1)
	is(t, "Spoil", c.Spoil(0, 0, 1<<20, 1), false)
	is(t, "Spoil", c.Spoil(0, 4, 0, 1), false)
	is(t, "Spoil", c.Spoil(0, 0, 5, 1), true)
	is(t, "Start", fault.Text(c.Start(0)), "cluster: node: code 7")
	is(t, "Node", c.Node(0), nil)
	c.Fail(2, 0)
	c.Net().Cut(0, 1, true)
	c.Heal()
	is(t, "Node", c.Node(0), nil)
	is(t, "Node", c.Node(1) != nil, true)
	is(t, "IsCut", c.Net().IsCut(0, 1), false)
	is(t, "Promised", c.Node(1).Promised(0), ballot.Ballot{C: 1, N: 1})
	is(t, "Steal", c.Steal(2, 0), api.OK)
	is(t, "Node", c.Node(2) != nil, true)
	is(t, "Spoil", c.Spoil(0, 0, 5, 1), true)
	is(t, "Start", c.Start(0), nil)

	// A disk that fails while it is opened.
	c.Crash(1)
	c.disks[1].Append(0, "x")
	c.Fail(1, 0)
	is(t, "Start", fault.Text(c.Start(1)), "cluster: node: code 8")
	is(t, "Node", c.Node(1), nil)
	is(t, "Start", c.Start(1), nil)
}

// P26: what the network does not accept is lost.
func TestFullNetwork(t *testing.T) {
	c := fresh(t, config(3))
	for range api.MaxFly - 1 {
		c.Net().Send(net.Packet{From: 2, To: 1, Text: "x"})
	}
	is(t, "Steal", c.Steal(0, 0), api.OK)
	is(t, "Len", c.Net().Len(), api.MaxFly)
	p, _ := c.Net().Look(api.MaxFly - 1)
	is(t, "To", p.To, 1)
}

// Rule 1: New returns no cluster with an error, and that one has nothing.
func TestNone(t *testing.T) {
	var c *Cluster
	is(t, "Config", len(c.Config().Subs), 0)
	is(t, "Node", c.Node(0), nil)
	is(t, "Net", c.Net().Len(), 0)
	is(t, "Now", c.Now(0), 0)
	is(t, "Fits", c.Fits(), true)
	is(t, "Deliver", c.Deliver(0), false)
	c.Pass(1)
	c.Round()
	c.Heal()
	is(t, "Call", c.Call(0, 0, ""), api.ErrInval)
	is(t, "Steal", c.Steal(0, 0), api.ErrInval)
	_, _, e := c.Read(0, 0, 0, path.Path{})
	is(t, "Read", e, api.ErrInval)
	is(t, "Crash", c.Crash(0), api.ErrInval)
	is(t, "Start", fault.Code(c.Start(0)), api.ErrInval)
	is(t, "Fail", c.Fail(0, 0), api.ErrInval)
	is(t, "Spoil", c.Spoil(0, 0, 0, 0), false)
	is(t, "Answers", len(c.Answers()), 0)
	is(t, "Dids", len(c.Dids()), 0)
}

// Examples 2 to 9 of the whole, as far as they are about the cluster.
func TestExamplesOfTheWhole(t *testing.T) {
	c := config(1)
	c.Subs, c.Rate = []string{"/"}, drift.Rate{P: 1, Q: 1}
	x := fresh(t, c)
	is(t, "Steal", x.Steal(0, 0), api.OK)
	_, _, e := x.Read(0, 0, 1, at("/a"))
	is(t, "Read", e, api.ErrLease)
	x.Round()
	is(t, "Len", x.Net().Len(), 0)
	_, place, e := x.Read(0, 0, 1, at("/a"))
	is(t, "Read", place == -1 && e == api.OK, true)

	// A session ends when Lease has passed, and not before.
	for _, by := range []int{29, 30} {
		x := fresh(t, c)
		x.Steal(0, 0)
		x.Call(0, 0, opens(1, 1))
		x.Pass(by)
		x.Answers()
		is(t, "Call", x.Call(0, 0, table.Cmd{Kind: table.Keep, Client: 1, Seq: 2, Session: 1}.Text()), api.OK)
		want := table.Reply{Count: 1}
		if by == 30 {
			want = table.Reply{Err: api.ErrSession}
		}
		answered(t, x, Answer{0, node.Answer{Client: 1, Seq: 2, Final: true, Reply: want}})
	}

	x = fresh(t, c)
	is(t, "Crash", x.Crash(0), api.OK)
	is(t, "Steal", x.Steal(0, 0), api.ErrDown)
	is(t, "Start", x.Start(0), nil)
	is(t, "Start", fault.Code(x.Start(0)), api.ErrBusy)
	is(t, "Steal", x.Steal(0, 1), api.ErrInval)

	x = fresh(t, c)
	x.Steal(0, 0)
	x.Call(0, 0, opens(1, 1))
	x.Crash(0)
	is(t, "Start", x.Start(0), nil)
	is(t, "Done", x.Node(0).Done(0), 0)
	x.Steal(0, 0)
	x.Round()
	is(t, "Done", x.Node(0).Done(0), 1)
}
