package client

import (
	"math"
	"slices"
	"testing"

	"chatelaine/api"
	"chatelaine/cluster"
	"chatelaine/drift"
	"chatelaine/grid"
	"chatelaine/node"
	"chatelaine/path"
	"chatelaine/steal"
	"chatelaine/table"
)

// config returns a configuration of so many nodes in one region, of which a
// majority is a quorum.
func config(nodes int) node.Config {
	most := grid.Kind{Zones: 1, Nodes: nodes/2 + 1}
	return node.Config{
		Grid: grid.Config{Regions: 1, Per: nodes, First: most, Second: most},
		Subs: []string{"/a", "/b"}, Term: 10, Every: 3, Rate: drift.Rate{P: 11, Q: 10}, Lease: 30,
		Policy: steal.Policy{Least: 50, Span: 20}, Patience: 40, Fold: 8,
	}
}

// is fails unless both are equal.
func is[T comparable](t *testing.T, what string, got, want T) {
	t.Helper()
	if got != want {
		t.Fatalf("%s: %v, not %v", what, got, want)
	}
}

// at returns the path with a text.
func at(s string) path.Path {
	p, err := path.Parse(s)
	if err != nil {
		panic(err)
	}
	return p
}

// world is a cluster and its clients.
type world struct {
	*Clients
	t *testing.T
	c *cluster.Cluster
}

// fresh returns a cluster of which node 0 owns both subtrees, and its clients.
func fresh(t *testing.T, c node.Config) *world {
	t.Helper()
	x, err := cluster.New(c, 1<<20)
	if err != nil {
		t.Fatal(err)
	}
	for sub := range c.Subs {
		is(t, "Steal", x.Steal(0, sub), api.OK)
	}
	w := &world{New(x), t, x}
	w.rounds(4)
	for sub := range c.Subs {
		is(t, "Ready", x.Node(0).Ready(sub), true)
	}
	return w
}

// rounds performs so many Rounds.
func (w *world) rounds(n int) {
	for range n {
		w.c.Round()
	}
}

// begin begins a call without a path, at node 0.
func (w *world) begin(client, sub, kind int) {
	w.t.Helper()
	is(w.t, "Begin", w.Begin(client, 0, sub, kind, path.Path{}, false, false), api.OK)
}

// call begins such a call, and collects the answer of a single node.
func (w *world) call(client, sub, kind int) Op {
	w.t.Helper()
	w.begin(client, sub, kind)
	is(w.t, "Collect", w.Collect(), 1)
	return w.latest()
}

// latest returns the call that began last.
func (w *world) latest() Op {
	l := w.History()
	return l[len(l)-1]
}

// same reports whether two calls are equal.
func same(a, b Op) bool {
	return a.Client == b.Client && a.Sub == b.Sub && a.Seq == b.Seq && a.Node == b.Node && a.Text == b.Text &&
		a.Start == b.Start && a.End == b.End && table.Same(a.Reply, b.Reply)
}

// calls fails unless these are all calls.
func (w *world) calls(want ...Op) {
	w.t.Helper()
	if got := w.History(); !slices.EqualFunc(got, want, same) {
		w.t.Fatalf("calls %v, not %v", got, want)
	}
}

// Example 1: the client holds its session until 32.
func TestExample(t *testing.T) {
	w := fresh(t, config(1))
	w.c.Pass(1)
	is(t, "Now", w.c.Now(0), 5)
	is(t, "the reply", w.call(1, 0, table.Open).Reply.Session, 1)
	is(t, "Holds", w.Holds(1, 0), true)
	w.c.Pass(26)
	is(t, "Now", w.c.Now(0), 31)
	is(t, "Holds", w.Holds(1, 0), true)
	w.c.Pass(1)
	is(t, "Holds", w.Holds(1, 0), false)
	is(t, "Session", w.Session(1, 0), 1)
}

// P27.1: New returns the clients 1 to 64, without sessions and calls.
func TestNew(t *testing.T) {
	w := fresh(t, config(1))
	w.calls()
	is(t, "Collect", w.Collect(), 0)
	for client := -1; client <= table.MaxClient+1; client++ {
		is(t, "Open", w.Open(client), false)
		is(t, "Leave", w.Leave(client), api.ErrNone)
		is(t, "Retry", w.Retry(client, 0), api.ErrNone)
		for sub := -1; sub <= api.MaxSubs; sub++ {
			is(t, "Session", w.Session(client, sub), 0)
			is(t, "Holds", w.Holds(client, sub), false)
		}
		want := api.OK
		if client < 1 || client > table.MaxClient {
			want = api.ErrInval
		}
		is(t, "Begin", w.Begin(client, 0, 0, table.Open, path.Path{}, false, false), want)
		is(t, "Open", w.Open(client), want == api.OK)
	}
	is(t, "History", len(w.History()), table.MaxClient)
	is(t, "Collect", w.Collect(), table.MaxClient)
	is(t, "Collect", w.Collect(), 0)
	for client := 1; client <= table.MaxClient; client++ {
		want := client
		if client > api.MaxSessions {
			want = 0
		}
		is(t, "Session", w.Session(client, 0), want)
		is(t, "Holds", w.Holds(client, 0), want > 0)
	}
}

// P27.1: the errors of Begin, which changes nothing then.
func TestErrorsOfBegin(t *testing.T) {
	w := fresh(t, config(3))
	begin := func(client, node, sub, kind int, want api.Errno) {
		t.Helper()
		is(t, "Begin", w.Begin(client, node, sub, kind, at("/a"), true, true), want)
	}
	wrong := func(client int) {
		t.Helper()
		for _, x := range []int{-1, 0, table.MaxClient + 1, math.MaxInt, math.MinInt} {
			begin(x, 0, 0, table.Open, api.ErrInval)
		}
		for _, x := range []int{-1, 3, math.MaxInt, math.MinInt} {
			begin(client, x, 0, table.Open, api.ErrInval)
		}
		for _, x := range []int{-1, 2, math.MaxInt, math.MinInt} {
			begin(client, 0, x, table.Open, api.ErrInval)
		}
		for _, x := range []int{-1, 0, table.Expire, table.Expire + 1, math.MaxInt, math.MinInt} {
			begin(client, 0, 0, x, api.ErrInval)
		}
	}
	wrong(1)
	is(t, "Open", w.Open(1), false)
	w.calls()
	w.begin(1, 1, table.Open)
	text := table.Cmd{Kind: table.Open, Client: 1, Seq: 1}.Text()
	open := Op{Client: 1, Sub: 1, Seq: 1, Text: text, Start: 1, End: -1}
	w.calls(open)
	wrong(1) // ErrInval comes before ErrBusy.
	for kind := table.Open; kind <= table.Drain; kind++ {
		for _, node := range []int{0, 1, 2} {
			begin(1, node, 0, kind, api.ErrBusy)
			begin(1, node, 1, kind, api.ErrBusy)
		}
	}
	w.calls(open)
	w.rounds(2)
	is(t, "Collect", w.Collect(), 1)
	open.End, open.Reply = 2, table.Reply{Session: 1}
	w.calls(open)
}

// P27.1: the command of each kind has the client's next number and its session
// of that subtree, and is called at the node.
func TestCommands(t *testing.T) {
	w := fresh(t, config(1))
	w.call(9, 0, table.Open)
	w.call(1, 0, table.Open)
	w.call(1, 1, table.Open)
	sessions := []int{2, 1}
	seq, events := 2, 6
	for _, kind := range []int{table.Open, table.Keep, table.Acquire, table.Release, table.Watch, table.Drain, table.Close} {
		for n := range 8 {
			sub, excl, wait := n%2, n&2 > 0, n&4 > 0
			p := at([]string{"/a/x", "/b/x/y"}[sub])
			seq++
			c := table.Cmd{Kind: kind, Client: 1, Seq: seq, Session: sessions[sub], Path: p, Excl: excl, Wait: wait}
			is(t, "Begin", w.Begin(1, 0, sub, kind, p, excl, wait), api.OK)
			want := Op{Client: 1, Sub: sub, Seq: seq, Text: c.Text(), Start: events + 1, End: -1}
			is(t, "the call", same(w.latest(), want), true)
			is(t, "Collect", w.Collect(), 1)
			events += 2
			want.End, want.Reply = events, w.told(sub, 1)
			is(t, "the call", same(w.latest(), want), true)
			switch kind {
			case table.Open:
				sessions[sub] = want.Reply.Session
			case table.Close:
				sessions[sub] = 0
			}
		}
	}
	is(t, "History", len(w.History()), 3+7*8)
}

// told returns the last reply to a client in the table of node 0.
func (w *world) told(sub, client int) table.Reply {
	_, x := w.c.Node(0).Table(sub).Told(client)
	return x
}

// P27.1: the numbers are those of the client, not of a subtree, and each call
// has its own, whatever becomes of it.
func TestNumbers(t *testing.T) {
	w := fresh(t, config(1))
	for i, sub := range []int{0, 1, 1, 0} {
		is(t, "Seq", w.call(5, sub, table.Open).Seq, i+1)
	}
	w.begin(5, 0, table.Keep)
	is(t, "Leave", w.Leave(5), api.OK)
	is(t, "Seq", w.call(5, 0, table.Keep).Seq, 6)
	is(t, "Seq", w.call(6, 0, table.Keep).Seq, 1)
	is(t, "Seq", w.latest().Text == table.Cmd{Kind: table.Keep, Client: 6, Seq: 1}.Text(), true)
}

// P27.1: after a Close the client has no session of that subtree, whatever the
// result of the call.
func TestClose(t *testing.T) {
	w := fresh(t, config(1))
	w.call(1, 0, table.Open)
	w.call(1, 1, table.Open)
	w.call(2, 0, table.Open)
	w.begin(1, 0, table.Close)
	is(t, "the command", w.latest().Text, table.Cmd{Kind: table.Close, Client: 1, Seq: 3, Session: 1}.Text())
	is(t, "Session", w.Session(1, 0), 0)
	is(t, "Holds", w.Holds(1, 0), false)
	is(t, "Session", w.Session(1, 1), 1)
	is(t, "Session", w.Session(2, 0), 2)
	is(t, "Collect", w.Collect(), 1)
	is(t, "Session", w.Session(1, 0), 0)
	is(t, "the reply", w.latest().Reply.Err, api.OK)

	// Without a session, it has none.
	is(t, "the reply", w.call(1, 0, table.Close).Reply.Err, api.ErrSession)
	is(t, "the reply", w.call(1, 0, table.Keep).Reply.Err, api.ErrSession)
	is(t, "Holds", w.Holds(1, 0), false)
	is(t, "Session", w.Session(1, 1), 1)

	// A Close while another call is open does not begin.
	w.begin(2, 1, table.Open)
	is(t, "Begin", w.Begin(2, 0, 0, table.Close, path.Path{}, false, false), api.ErrBusy)
	is(t, "Begin", w.Begin(2, 0, 2, table.Close, path.Path{}, false, false), api.ErrInval)
	is(t, "Session", w.Session(2, 0), 2)
	is(t, "Collect", w.Collect(), 1)

	// The node is down.
	w.c.Crash(0)
	w.begin(2, 0, table.Close)
	is(t, "Session", w.Session(2, 0), 0)
	is(t, "Leave", w.Leave(2), api.OK)
	is(t, "Session", w.Session(2, 0), 0)
	is(t, "Session", w.Session(2, 1), 2)
}

// P27.1: a call begins whatever the result of the cluster.
func TestBeginWithoutNode(t *testing.T) {
	c := config(3)
	c.Grid.Witness, c.Grid.First, c.Grid.Second = 4, grid.Kind{Zones: 1, Nodes: 3}, grid.Kind{Zones: 1, Nodes: 2}
	w := fresh(t, c)
	w.c.Crash(1)
	for client, node := range map[int]int{1: 1, 2: 2} {
		is(t, "Begin", w.Begin(client, node, 0, table.Open, path.Path{}, false, false), api.OK)
		is(t, "Open", w.Open(client), true)
		is(t, "Node", w.latest().Node, node)
	}
	w.rounds(5)
	is(t, "Collect", w.Collect(), 0)
	is(t, "Retry", w.Retry(1, 1), api.ErrDown)
	is(t, "Retry", w.Retry(2, 2), api.ErrInval)
	is(t, "Retry", w.Retry(1, 0), api.OK)
	w.c.Start(1)
	is(t, "Retry", w.Retry(2, 1), api.ErrOwner)
	is(t, "History", len(w.History()), 2)
	is(t, "Open", w.Open(2), true)
}

// P27.1: Retry calls the same command again, at any node, and returns the error
// of the cluster.
func TestRetry(t *testing.T) {
	w := fresh(t, config(3))
	w.c.Crash(1)
	is(t, "Begin", w.Begin(1, 1, 1, table.Open, path.Path{}, false, false), api.OK)
	before := w.History()
	for _, node := range []int{-1, 3, math.MaxInt, math.MinInt} {
		is(t, "Retry", w.Retry(1, node), api.ErrInval)
	}
	is(t, "Retry", w.Retry(1, 1), api.ErrDown)
	w.calls(before...)
	is(t, "Retry", w.Retry(1, 2), api.OK)
	is(t, "Retry", w.Retry(1, 0), api.OK)
	is(t, "Retry", w.Retry(1, 0), api.OK)
	w.calls(before...)
	w.rounds(6)
	is(t, "Collect", w.Collect(), 1)
	op := w.latest()
	is(t, "the call", same(op, Op{Client: 1, Sub: 1, Seq: 1, Node: 1, Text: before[0].Text, Start: 1, End: 2, Reply: table.Reply{Session: 1}}), true)
	is(t, "Retry", w.Retry(1, 0), api.ErrNone)
	is(t, "Retry", w.Retry(1, 1), api.ErrNone)
	is(t, "Retry", w.Retry(1, 7), api.ErrNone)
	w.rounds(6)
	is(t, "Collect", w.Collect(), 0)
	is(t, "Sessions", len(w.c.Node(0).Table(1).Sessions()), 1)
	w.calls(op)
}

// P27.1: an abandoned call is never answered.
func TestLeave(t *testing.T) {
	w := fresh(t, config(1))
	w.begin(1, 0, table.Open)
	left := w.latest()
	is(t, "Leave", w.Leave(1), api.OK)
	is(t, "Leave", w.Leave(1), api.ErrNone)
	is(t, "Open", w.Open(1), false)
	is(t, "Retry", w.Retry(1, 0), api.ErrNone)
	is(t, "Collect", w.Collect(), 0)
	is(t, "Session", w.Session(1, 0), 0)
	w.calls(left)

	// Nor when the next one is open already: the answer has another number.
	w.begin(1, 0, table.Open)
	second := w.latest()
	is(t, "Leave", w.Leave(1), api.OK)
	w.begin(1, 1, table.Open)
	is(t, "Collect", w.Collect(), 1)
	third := w.latest()
	is(t, "the call", same(third, Op{Client: 1, Sub: 1, Seq: 3, Text: third.Text, Start: 3, End: 4, Reply: table.Reply{Session: 1}}), true)
	w.calls(left, second, third)
	is(t, "Session", w.Session(1, 0), 0)
	is(t, "Session", w.Session(1, 1), 1)
	is(t, "Sessions", len(w.c.Node(0).Table(0).Sessions()), 2)
}

// P27.1: Collect ends the calls in the order of the answers, which are Final and
// have the number of an open call.
func TestCollect(t *testing.T) {
	w := fresh(t, config(1))
	for _, client := range []int{3, 1, 2} {
		w.begin(client, 0, table.Open)
	}
	is(t, "Retry", w.Retry(2, 0), api.OK)
	is(t, "Leave", w.Leave(1), api.OK)
	is(t, "Collect", w.Collect(), 2)
	l := w.History()
	for i, want := range [][3]int{{3, 1, 4}, {1, 2, -1}, {2, 3, 5}} {
		is(t, "the call", [3]int{l[i].Client, l[i].Start, l[i].End}, want)
	}
	is(t, "Open", w.Open(3), false)

	// The answers to commands that the clients did not call.
	w.begin(4, 0, table.Open)
	w.Collect()
	w.c.Crash(0)
	w.begin(4, 0, table.Keep)
	w.c.Start(0)
	w.c.Steal(0, 0)
	for _, seq := range []int{1, 3} {
		text := table.Cmd{Kind: table.Keep, Client: 4, Seq: seq, Session: 4}.Text()
		is(t, "Call", w.c.Call(0, 0, text), api.OK)
		is(t, "Collect", w.Collect(), 0)
		is(t, "Open", w.Open(4), true)
	}
	is(t, "Call", w.c.Call(0, 0, table.Cmd{Kind: table.Open, Client: 64, Seq: 1}.Text()), api.OK)
	is(t, "Collect", w.Collect(), 0)
	is(t, "Session", w.Session(64, 0), 0)
	is(t, "Retry", w.Retry(4, 0), api.OK)
	is(t, "Collect", w.Collect(), 1)
	is(t, "the reply", w.latest().Reply.Err, api.ErrStale)
}

// P27.1: an answer that is not Final ends no call.
func TestNotFinal(t *testing.T) {
	w := fresh(t, config(3))
	lost := func() {
		w.c.Crash(0)
		w.c.Start(0)
		is(t, "Begin", w.Begin(1, 1, 0, table.Open, path.Path{}, false, false), api.OK)
		w.rounds(2)
	}
	lost()
	answers := w.c.Answers()
	is(t, "the answer", len(answers) == 1 && !answers[0].Final && answers[0].Seq == 1, true)
	is(t, "Leave", w.Leave(1), api.OK)
	w.c.Steal(0, 0)
	w.rounds(4)
	lost()
	is(t, "Collect", w.Collect(), 0)
	is(t, "Open", w.Open(1), true)
	is(t, "End", w.latest().End, -1)
	w.c.Steal(0, 0)
	w.rounds(4)
	is(t, "Retry", w.Retry(1, 1), api.OK)
	w.rounds(4)
	is(t, "Collect", w.Collect(), 1)
	is(t, "Start", w.latest().Start, 2)
	is(t, "End", w.latest().End, 3)
}

// P27.1: only an Open that is OK changes the session.
func TestSession(t *testing.T) {
	w := fresh(t, config(1))
	w.call(1, 0, table.Open)
	w.begin(1, 0, table.Open)
	is(t, "Session", w.Session(1, 0), 1)
	is(t, "Collect", w.Collect(), 1)
	is(t, "Session", w.Session(1, 0), 2)
	for range api.MaxSessions - 2 {
		w.call(2, 0, table.Open)
	}
	is(t, "Session", w.Session(2, 0), 8)
	is(t, "the reply", w.call(1, 0, table.Open).Reply.Err, api.ErrFull)
	is(t, "Session", w.Session(1, 0), 2)
	for kind := table.Keep; kind <= table.Drain; kind++ {
		w.begin(1, 0, kind)
		w.Collect()
		is(t, "Session", w.Session(1, 0), 2)
	}
	for _, sub := range []int{-1, 2, 3, 4, math.MaxInt, math.MinInt} {
		is(t, "Session", w.Session(1, sub), 0)
		is(t, "Holds", w.Holds(1, sub), false)
	}
	for _, client := range []int{-1, 0, 65, math.MaxInt, math.MinInt} {
		is(t, "Session", w.Session(client, 0), 0)
		is(t, "Holds", w.Holds(client, 0), false)
	}
}

// until fails unless the client holds its session of subtree 0 before a time of
// a node's clock only.
func (w *world) until(client, node, time int) {
	w.t.Helper()
	for w.c.Now(node) < time {
		is(w.t, "Holds", w.Holds(client, 0), true)
		w.rounds(1)
	}
	is(w.t, "Holds", w.Holds(client, 0), false)
}

// P27.1: the lease lasts from the time at which the call of the last Open or Keep
// that is OK began, on the clock of its node.
func TestHolds(t *testing.T) {
	begun := func(kind, node int) *world {
		w := fresh(t, config(3))
		w.c.Pass(5, 9, 2) // 9, 13, 6
		w.begin(1, 0, table.Open)
		w.rounds(2) // 11, 15, 8
		is(t, "Collect", w.Collect(), 1)
		is(t, "Begin", w.Begin(1, node, 0, kind, at("/a"), false, false), api.OK)
		w.rounds(4) // 15, 19, 12
		is(t, "Collect", w.Collect(), 1)
		is(t, "the reply", w.latest().Reply.Err, api.OK)
		return w
	}
	begun(table.Watch, 1).until(1, 0, 9+27)
	begun(table.Acquire, 2).until(1, 0, 9+27)
	begun(table.Drain, 2).until(1, 0, 9+27)
	begun(table.Keep, 0).until(1, 0, 11+27)
	begun(table.Keep, 1).until(1, 1, 15+27)
	begun(table.Keep, 2).until(1, 2, 8+27)
	begun(table.Open, 2).until(1, 2, 8+27)
	is(t, "Holds", begun(table.Close, 2).Holds(1, 0), false)

	// A call that is retried began where and when it began first.
	w := fresh(t, config(3))
	w.c.Crash(1)
	is(t, "Begin", w.Begin(1, 1, 0, table.Open, path.Path{}, false, false), api.OK)
	w.c.Pass(3, 3, 3)
	is(t, "Retry", w.Retry(1, 0), api.OK)
	w.rounds(2)
	is(t, "Holds", w.Holds(1, 0), false) // as long as it is not answered
	is(t, "Collect", w.Collect(), 1)
	w.until(1, 1, 4+27)

	// The answer comes too late.
	w = fresh(t, config(1))
	w.begin(1, 0, table.Open)
	w.c.Pass(27)
	is(t, "Collect", w.Collect(), 1)
	is(t, "Session", w.Session(1, 0), 1)
	is(t, "Holds", w.Holds(1, 0), false)

	// A Keep that is not OK.
	w = fresh(t, config(1))
	w.call(1, 0, table.Open)
	w.call(2, 0, table.Open)
	w.c.Pass(20)
	w.call(2, 0, table.Keep)
	w.c.Pass(10)
	is(t, "Holds", w.Holds(2, 0), true)
	is(t, "the reply", w.call(1, 0, table.Keep).Reply.Err, api.ErrSession)
	is(t, "Holds", w.Holds(1, 0), false)
	is(t, "Session", w.Session(1, 0), 1)

	// The subtrees have leases of their own.
	w = fresh(t, config(1))
	w.call(1, 0, table.Open)
	w.c.Pass(20)
	w.call(1, 1, table.Open)
	w.c.Pass(20)
	is(t, "Holds", w.Holds(1, 0), false)
	is(t, "Holds", w.Holds(1, 1), true)
}

// P27.1: a lease of 1 is no lease on clocks that may be slower, and a clock that
// has come to its end does not end a lease.
func TestHoldsOfLimits(t *testing.T) {
	for lease, want := range map[int]bool{1: false, 2: true} {
		c := config(1)
		c.Lease = lease
		w := fresh(t, c)
		w.call(1, 0, table.Open)
		is(t, "Holds", w.Holds(1, 0), want)
	}
	w := fresh(t, config(1))
	w.c.Pass(api.MaxTime)
	w.call(1, 0, table.Open)
	w.c.Pass(api.MaxTime)
	is(t, "Holds", w.Holds(1, 0), true)
	is(t, "Sessions", len(w.c.Node(0).Table(0).Sessions()), 1)
}

// P27.1: the answer to a command that the clients did not call may have the
// number of an open call.
func TestForeignAnswer(t *testing.T) {
	w := fresh(t, config(1))
	is(t, "Call", w.c.Call(0, 0, table.Cmd{Kind: table.Open, Client: 1, Seq: 1}.Text()), api.OK)
	w.begin(1, 0, table.Keep)
	is(t, "Collect", w.Collect(), 1)
	is(t, "the reply", w.latest().Reply.Session, 1)
	is(t, "Session", w.Session(1, 0), 0)
	is(t, "Holds", w.Holds(1, 0), false) // It has no session.
}

// Rule 5: the calls that History returns are copies.
func TestMemory(t *testing.T) {
	w := fresh(t, config(1))
	w.call(1, 0, table.Open)
	is(t, "Begin", w.Begin(1, 0, 0, table.Watch, at("/a"), false, false), api.OK)
	is(t, "Begin", w.Begin(2, 0, 0, table.Open, path.Path{}, false, false), api.OK)
	is(t, "Collect", w.Collect(), 2)
	is(t, "Begin", w.Begin(2, 0, 0, table.Acquire, at("/a"), false, false), api.OK)
	is(t, "Collect", w.Collect(), 1)
	w.call(1, 0, table.Drain)
	want := table.Event{Kind: table.Granted, Path: at("/a"), Session: 2, Token: 1}
	for range 2 {
		l := w.History()
		is(t, "Text", l[0].Text, table.Cmd{Kind: table.Open, Client: 1, Seq: 1}.Text())
		is(t, "Events", len(l[4].Reply.Events) == 1 && l[4].Reply.Events[0] == want, true)
		l[4].Reply.Events[0] = table.Event{}
		l[0] = Op{}
	}
	is(t, "Events", w.told(0, 1).Events[0], want)
}

// Rule 1: all arguments are accepted.
func TestAnyArguments(t *testing.T) {
	w := fresh(t, config(1))
	l := []int{math.MinInt, -1, 0, 1, 2, 7, 8, 64, 65, 1 << 40, math.MaxInt}
	began := 0
	for _, client := range l {
		for _, node := range l {
			for _, sub := range l {
				for _, kind := range l {
					if w.Begin(client, node, sub, kind, at("/x/y/z"), true, true) == api.OK {
						began++
					}
					w.Retry(client, node)
					w.Collect()
				}
				w.Session(client, sub)
				w.Holds(client, sub)
			}
		}
		w.Open(client)
		w.Leave(client)
	}
	is(t, "calls", began, 5*2*3)
	is(t, "History", len(w.History()), began)
}
