package node

import (
	"slices"
	"testing"

	"chatelaine/api"
	"chatelaine/image"
	"chatelaine/locks"
	"chatelaine/msg"
	"chatelaine/propose"
	"chatelaine/steal"
	"chatelaine/table"
)

// carry lets the nodes exchange messages until there are none, and returns the
// answers of each.
func carry(t *testing.T, now int, nodes ...*Node) [][]Answer {
	t.Helper()
	all := make([][]Answer, len(nodes))
	for some := true; some; {
		some = false
		for i, n := range nodes {
			out, answers := flush(t, n)
			all[i] = append(all[i], answers...)
			some = some || len(out) > 0
			for _, m := range out {
				for _, n := range nodes {
					n.Handle(m, now)
				}
			}
		}
	}
	return all
}

// trio returns three nodes, of which node 0 is the owner of subtree 0, and the
// others know it.
func trio(t *testing.T, c Config) []*Node {
	t.Helper()
	nodes := []*Node{fresh(t, c, 0), fresh(t, c, 1), fresh(t, c, 2)}
	nodes[0].Steal(0, 0)
	carry(t, 0, nodes...)
	nodes[0].Tick(0)
	carry(t, 0, nodes...)
	for _, n := range nodes {
		is(t, "Owner", n.Owner(0), 0)
	}
	return nodes
}

// answered fails unless these are the answers.
func answered(t *testing.T, got []Answer, want ...Answer) {
	t.Helper()
	same := func(a, b Answer) bool {
		return a.Client == b.Client && a.Seq == b.Seq && a.Final == b.Final && table.Same(a.Reply, b.Reply)
	}
	if !slices.EqualFunc(got, want, same) {
		t.Fatalf("answers %v, not %v", got, want)
	}
}

// P25.1: the errors of Call, in their order.
func TestErrorsOfCall(t *testing.T) {
	n := own(t, config(3))
	for _, text := range []string{
		"", "x", opens(0, 0), opens(1, 0), opens(65, 1), opens(1, 1) + "x", opens(1, 1)[1:],
		table.Cmd{Kind: table.Expire, Session: 1}.Text(), table.Cmd{Kind: 0, Client: 1, Seq: 1}.Text(),
	} {
		is(t, "Call", n.Call(0, text, 0), api.ErrForm)
		is(t, "Call", n.Call(1, text, 0), api.ErrForm)
		is(t, "Call", n.Call(2, text, 0), api.ErrInval)
		sends(t, n)
		is(t, "Role", n.Role(1), propose.Idle)
	}
	for i := range api.MaxWindow {
		is(t, "Call", n.Call(0, opens(i+1, 1), 0), api.OK)
	}
	flush(t, n)
	is(t, "Call", n.Call(0, opens(9, 1), 0), api.ErrBusy)
	sends(t, n)
}

// P25.1: without a known owner, Call makes the node try to become it.
func TestCallWithoutOwner(t *testing.T) {
	n := fresh(t, config(3), 0)
	is(t, "Call", n.Call(0, opens(1, 1), 0), api.ErrOwner)
	is(t, "Role", n.Role(0), propose.Trying)
	sends(t, n, prepares(ball(1, 0), 1)...)
	is(t, "Call", n.Call(0, opens(1, 1), 0), api.ErrOwner)
	sends(t, n)
	n.Handle(from(2, msg.Ask, ball(1, 2), 0), 0)
	flush(t, n)
	is(t, "Owner", n.Owner(0), 2)
	is(t, "Call", n.Call(0, opens(1, 1), 0), api.OK)
	sends(t, n, msg.Msg{Kind: msg.Call, To: 2, Text: opens(1, 1)})

	// A single node becomes the owner, but the command is not called.
	n = fresh(t, config(1), 0)
	is(t, "Call", n.Call(0, opens(1, 1), 0), api.ErrOwner)
	is(t, "Ready", n.Ready(0), true)
	is(t, "Done", n.Done(0), 0)
}

// P25.1: a command that is called at another node is sent to the owner, and
// answered where it was called.
func TestCallAtAnotherNode(t *testing.T) {
	nodes := trio(t, config(3))
	is(t, "Call", nodes[2].Call(0, opens(7, 3), 0), api.OK)
	is(t, "Role", nodes[2].Role(0), propose.Idle)
	all := carry(t, 0, nodes...)
	answered(t, all[2], Answer{7, 3, true, table.Reply{Session: 1}})
	is(t, "Call", nodes[1].Call(0, acquires(7, 4, 1, "/a/x"), 0), api.OK)
	is(t, "Call", nodes[0].Call(0, acquires(7, 5, 1, "/a/y"), 0), api.OK)
	is(t, "Call", nodes[2].Call(0, acquires(7, 6, 1, "/b"), 0), api.OK)
	all2 := carry(t, 0, nodes...)
	answered(t, all2[0], Answer{7, 5, true, table.Reply{Token: 1}})
	answered(t, all2[2], Answer{7, 6, true, table.Reply{Err: api.ErrRoute}})
	answered(t, all2[1], Answer{7, 4, true, table.Reply{Err: api.ErrStale}})
	answered(t, all[0])
	answered(t, all[1])
	is(t, "Done", nodes[0].Done(0), 4)
}

// P25.1: the answer to a command that was not executed, and why.
func TestNoFinalAnswer(t *testing.T) {
	nodes := trio(t, config(3))
	fill := func() {
		for i := range api.MaxWindow {
			is(t, "Call", nodes[0].Call(0, opens(i+1, 1), 0), api.OK)
		}
		flush(t, nodes[0])
	}
	fill()
	is(t, "Call", nodes[1].Call(0, opens(7, 3), 0), api.OK)
	answered(t, carry(t, 0, nodes...)[1], Answer{7, 3, false, table.Reply{Err: api.ErrBusy}})

	nodes[0].Handle(from(2, msg.Refuse, ball(9, 2), 0), 0)
	is(t, "Call", nodes[1].Call(0, opens(7, 3), 0), api.OK)
	answered(t, carry(t, 0, nodes...)[1], Answer{7, 3, false, table.Reply{Err: api.ErrOwner}})

	// An owner that is not ready.
	n := fresh(t, config(3), 0)
	n.Steal(0, 0)
	m := from(1, msg.Promise, ball(1, 0), 0)
	m.List = []msg.Entry{{Slot: 1, Ballot: ball(1, 1), Text: "x"}}
	n.Handle(m, 0)
	flush(t, n)
	n.Handle(msg.Msg{Kind: msg.Call, From: 2, Text: opens(7, 3)}, 0)
	out, _ := flush(t, n)
	is(t, "messages", len(out), 1)
	is(t, "Reply", out[0].Kind, msg.Reply)
	is(t, "Final", out[0].OK, false)
}

// P25.1: after the last slot no command can be proposed.
func TestExhaustedSlots(t *testing.T) {
	n := fresh(t, config(3), 0)
	x := table.New(at("/a"), 0)
	n.Handle(msg.Msg{Kind: msg.Snap, From: 1, Slot: api.MaxSlot, Text: image.Write(x, api.MaxSlot)}, 0)
	is(t, "Done", n.Done(0), api.MaxSlot)
	n.Steal(0, 0)
	sends(t, n, prepares(ball(1, 0), api.MaxSlot)...)
	n.Handle(from(1, msg.Promise, ball(1, 0), api.MaxSlot), 0)
	is(t, "Ready", n.Ready(0), true)
	is(t, "Call", n.Call(0, opens(1, 1), 0), api.ErrExhausted)
	sends(t, n)
	n.Handle(msg.Msg{Kind: msg.Call, From: 2, Text: opens(7, 3)}, 0)
	out, _ := flush(t, n)
	other := fresh(t, config(3), 2)
	other.Handle(out[0], 0)
	_, answers := flush(t, other)
	answered(t, answers, Answer{7, 3, false, table.Reply{Err: api.ErrExhausted}})
}

// P25.1: the owner does not process what no client may call.
func TestForeignCalls(t *testing.T) {
	n := own(t, config(3))
	for _, text := range []string{"x", opens(0, 0), table.Cmd{Kind: table.Expire, Session: 1}.Text()} {
		n.Handle(msg.Msg{Kind: msg.Call, From: 1, Text: text}, 0)
		sends(t, n)
	}
	n.Handle(msg.Msg{Kind: msg.Call, From: 1}, 0)
	sends(t, n)
	is(t, "Ready", n.Ready(0), true)
}

// P25.1: a Reply that is none has no answer.
func TestReplies(t *testing.T) {
	nodes := trio(t, config(3))
	nodes[0].Handle(msg.Msg{Kind: msg.Call, From: 1, Text: acquires(7, 1<<40, 1, "/a")}, 0)
	out, _ := flush(t, nodes[0])
	nodes[2].Handle(out[1], 0)
	accepted, _ := flush(t, nodes[2])
	nodes[0].Handle(accepted[0], 0)
	reply, _ := flush(t, nodes[0])
	is(t, "Kind", reply[0].Kind, msg.Reply)
	good := reply[0]
	for i := range good.Text {
		m := good
		m.Text = good.Text[:i]
		nodes[1].Handle(m, 0)
	}
	for _, add := range []string{good.Text + "x", "\x41" + good.Text[1:], good.Text[:6] + "\x21" + good.Text[7:]} {
		m := good
		m.Text = add
		nodes[1].Handle(m, 0)
	}
	sends(t, nodes[1])
	nodes[1].Handle(good, 0)
	_, answers := flush(t, nodes[1])
	answered(t, answers, Answer{7, 1 << 40, true, table.Reply{Err: api.ErrSession}})
}

// P25.1: Read returns the result of Find as long as the node holds the subtree.
func TestRead(t *testing.T) {
	n := fresh(t, config(1), 0)
	read := func(session int, p string, now int, want locks.Lock, at0 int, e api.Errno) {
		t.Helper()
		lock, place, got := n.Read(0, session, at(p), now)
		if lock != want || place != at0 || got != e {
			t.Fatalf("%v, %d, %d, not %v, %d, %d", lock, place, got, want, at0, e)
		}
		is(t, "Holds", n.Holds(0, now), e == api.OK)
	}
	var none locks.Lock
	read(1, "/a", 0, none, 0, api.ErrOwner)
	n.Steal(0, 0)
	read(1, "/a", 0, none, 0, api.ErrLease)
	n.Tick(0)
	read(1, "/a", 0, none, -1, api.OK)
	n.Call(0, opens(1, 1), 0)
	n.Call(0, acquires(1, 2, 1, "/a/x"), 0)
	n.Call(0, opens(2, 1), 0)
	n.Call(0, acquires(2, 2, 2, "/a"), 0)
	read(1, "/a/x", 9, locks.Lock{Session: 1, Path: at("/a/x"), Excl: true, Token: 1}, 0, api.OK)
	read(2, "/a", 9, locks.Lock{Session: 2, Path: at("/a"), Excl: true}, 1, api.OK)
	read(2, "/a/x", 9, none, -1, api.OK)
	read(1, "/b", 9, none, -1, api.OK)
	read(1, "/a/x", 10, none, 0, api.ErrLease)
	sends1, _ := flush(t, n)
	is(t, "messages", len(sends1), 0)
}

// P25.1: a subtree moves to the region that uses it most: the owner asks the
// node that called it to take the subtree over.
func TestMoves(t *testing.T) {
	c := config(3)
	c.Grid.Regions, c.Grid.Per = 3, 1
	c.Grid.First.Zones, c.Grid.First.Nodes = 2, 1
	c.Grid.Second = c.Grid.First
	c.Policy = steal.Policy{Least: 3, Span: 20}
	nodes := trio(t, c)
	call := func(i, now int) {
		t.Helper()
		is(t, "Call", nodes[i].Call(0, opens(i+1, now), now), api.OK)
		carry(t, now, nodes...)
	}
	call(0, 1)
	call(1, 2)
	call(1, 3)
	for _, n := range nodes {
		is(t, "Owner", n.Owner(0), 0)
	}
	call(0, 4)
	call(0, 5)
	call(1, 6) // As often as the region of the owner.
	is(t, "Role", nodes[1].Role(0), propose.Idle)
	call(1, 7)
	is(t, "Role", nodes[1].Role(0), propose.Trying)
	is(t, "Role", nodes[2].Role(0), propose.Idle)
	for now := 8; nodes[1].Role(0) != propose.Owner; now++ {
		is(t, "the time", now < 40, true)
		for _, n := range nodes {
			n.Tick(now)
		}
		carry(t, now, nodes...)
	}
	nodes[1].Tick(40)
	carry(t, 40, nodes...)
	for _, n := range nodes {
		is(t, "Owner", n.Owner(0), 1)
	}
	// The new owner counts the uses that it sees.
	call(0, 41)
	call(2, 41)
	call(2, 41)
	is(t, "Role", nodes[2].Role(0), propose.Idle)
	call(2, 41)
	is(t, "Role", nodes[0].Role(0), propose.Idle)
	is(t, "Role", nodes[2].Role(0), propose.Trying)
}

// P25.1: a command that cannot be proposed is no use.
func TestBusyCallsDoNotMove(t *testing.T) {
	c := config(3)
	c.Grid.Regions, c.Grid.Per = 3, 1
	c.Grid.First.Zones, c.Grid.First.Nodes = 2, 1
	c.Grid.Second = c.Grid.First
	c.Policy = steal.Policy{Least: api.MaxWindow + 2, Span: 20}
	nodes := trio(t, c)
	for i := range 2 * api.MaxWindow {
		nodes[0].Handle(msg.Msg{Kind: msg.Call, From: 1, Text: opens(1, i+1)}, 0)
	}
	for i, want := range []int{propose.Idle, propose.Idle, propose.Trying} {
		carry(t, 0, nodes...)
		is(t, "Role", nodes[1].Role(0), want)
		nodes[0].Handle(msg.Msg{Kind: msg.Call, From: 1, Text: opens(1, 20+i)}, 0)
	}
}
