package node

import (
	"slices"
	"strings"
	"testing"

	"chatelaine/api"
	"chatelaine/disk"
	"chatelaine/image"
	"chatelaine/msg"
	"chatelaine/propose"
	"chatelaine/table"
)

// accepted lets the node accept a text.
func accepted(t *testing.T, n *Node, c uint64, node, slot int, text string) {
	t.Helper()
	m := from(node, msg.Accept, ball(c, node), slot)
	m.To, m.Text = n.id, text
	n.Handle(m, 0)
	sends(t, n, msg.Msg{Kind: msg.Accepted, To: node, Ballot: ball(c, node), Slot: slot})
}

// P25.1: a node that receives Chosen knows that what it accepted with that
// ballot, up to that slot, is chosen, and sends Fetch for what it does not have.
func TestChosen(t *testing.T) {
	n := fresh(t, config(3), 0)
	accepted(t, n, 1, 1, 1, "a")
	accepted(t, n, 1, 1, 2, "b")
	accepted(t, n, 2, 2, 3, "c")
	accepted(t, n, 2, 2, 5, "e")
	fetch := func(to, slot int) msg.Msg { return msg.Msg{Kind: msg.Fetch, To: to, Slot: slot} }
	n.Handle(from(1, msg.Chosen, ball(1, 1), 1), 0)
	sends(t, n)
	is(t, "Done", n.Done(0), 1)
	n.Handle(from(2, msg.Chosen, ball(2, 2), 1), 0)
	sends(t, n)
	n.Handle(from(2, msg.Chosen, ball(2, 2), 4), 0)
	sends(t, n, fetch(2, 2))
	is(t, "Done", n.Done(0), 1)
	n.Handle(from(1, msg.Chosen, ball(1, 1), 2), 0)
	sends(t, n)
	is(t, "Done", n.Done(0), 3) // Slot 3 was known already, and slot 4 was not accepted.
	n.Handle(from(2, msg.Chosen, ball(2, 2), 5), 0)
	sends(t, n, fetch(2, 4))
	n.Handle(msg.Msg{Kind: msg.Give, From: 2, List: []msg.Entry{{Slot: 4, Text: "d"}}}, 0)
	sends(t, n)
	is(t, "Done", n.Done(0), 5)
	is(t, "Did", slices.Equal(n.Did(), []Did{{0, 1, "a"}, {0, 2, "b"}, {0, 3, "c"}, {0, 4, "d"}, {0, 5, "e"}}), true)
	is(t, "Done", n.Done(1), 0)
}

// P25.1: a node that tries to become the owner learns as well.
func TestChosenWhileTrying(t *testing.T) {
	n := fresh(t, config(3), 0)
	accepted(t, n, 1, 1, 1, "a")
	n.Steal(0, 0)
	flush(t, n)
	n.Handle(from(1, msg.Chosen, ball(1, 1), 1), 0)
	is(t, "Done", n.Done(0), 1)
	is(t, "Role", n.Role(0), propose.Trying)
	sends(t, n)
}

// P25.1: a witness trims its acceptor, and sends no Fetch.
func TestChosenOfWitness(t *testing.T) {
	d := disk.New(1 << 20)
	n := open0(t, withWitness(), 3, d)
	for slot := 1; slot <= 3; slot++ {
		accepted(t, n, 1, 1, slot, "a")
	}
	m := msg.Msg{Kind: msg.Chosen, From: 1, To: 3, Ballot: ball(1, 1), Slot: 2}
	n.Handle(m, 0)
	sends(t, n)
	a := kept(t, d.Clone(), true).Acceptor(0)
	is(t, "base", a.Base(), 2)
	is(t, "entries", len(a.List()), 1)
	m.Slot = 1
	n.Handle(m, 0)
	sends(t, n)
	is(t, "base", kept(t, d.Clone(), true).Acceptor(0).Base(), 2)
	for _, kind := range []int{msg.Fetch, msg.Give, msg.Snap, msg.Call, msg.Reply, msg.Promise, msg.Grant} {
		m.Kind = kind
		n.Handle(m, 0)
		sends(t, n)
	}
}

// P25.1: Fetch is answered by Give with the result of Log, or by Snap.
func TestFetch(t *testing.T) {
	c := config(1)
	c.Grid.Per = 2 // one is enough to choose
	c.Grid.First.Nodes = 2
	c.Fold = 32
	n := own(t, c)
	for i := 1; i <= 70; i++ {
		is(t, "Call", n.Call(0, opens(1, i), 0), api.OK)
		flush(t, n)
	}
	base := 64
	snap := msg.Msg{Kind: msg.Snap, To: 1, Slot: base}
	for _, slot := range []int{0, 1, base} {
		n.Handle(from(1, msg.Fetch, ball(0, 0), slot), 0)
		out, _ := flush(t, n)
		is(t, "messages", len(out), 1)
		x, at, e := image.Read(out[0].Text)
		is(t, "image", e == api.OK && at == base && len(x.Sessions()) == 8, true)
		out[0].Text, snap.From = "", 0
		is(t, "Snap", msg.Same(out[0], snap), true)
	}
	for _, slot := range []int{base + 1, base + 4, base + 6, base + 7, api.MaxSlot} {
		n.Handle(from(1, msg.Fetch, ball(0, 0), slot), 0)
		sends(t, n, msg.Msg{Kind: msg.Give, To: 1, List: n.Log(0, slot, 100)})
	}

	// Without an image there is none to send.
	n = fresh(t, config(3), 0)
	n.Handle(from(1, msg.Fetch, ball(0, 0), 0), 0)
	sends(t, n, msg.Msg{Kind: msg.Give, To: 1})
}

// P25.1: a Give has at most MaxList entries, so that it can be sent.
func TestLongGive(t *testing.T) {
	c := config(3)
	n := fresh(t, c, 0)
	for slot := 2; slot <= 101; slot++ {
		n.Handle(msg.Msg{Kind: msg.Give, From: 1, List: []msg.Entry{{Slot: slot}}}, 0)
	}
	is(t, "Done", n.Done(0), 0)
}

// P25.1, P25.3: a Snap replaces the table if it contains more, and is stored.
func TestSnap(t *testing.T) {
	x := table.New(at("/a"), 0)
	for i := range 3 {
		x.Apply(opens(i+1, 1))
	}
	snap := msg.Msg{Kind: msg.Snap, From: 1, Slot: 3, Text: image.Write(x, 3)}
	d := disk.New(1 << 20)
	n := open0(t, config(3), 0, d)
	n.Handle(msg.Msg{Kind: msg.Give, From: 1, List: []msg.Entry{{Slot: 1, Text: opens(1, 1)}, {Slot: 4, Text: opens(4, 1)}}}, 0)
	is(t, "Done", n.Done(0), 1)
	for _, change := range []func(m *msg.Msg){
		func(m *msg.Msg) { m.Slot = 2 },
		func(m *msg.Msg) { m.Slot = 4 },
		func(m *msg.Msg) { m.Text = "" },
		func(m *msg.Msg) { m.Text = m.Text[1:] },
		func(m *msg.Msg) { m.Text += "x" },
		func(m *msg.Msg) { m.Text = image.Write(table.New(at("/b"), 0), 3) },
		func(m *msg.Msg) { m.Slot, m.Text = 1, image.Write(x, 1) },
		func(m *msg.Msg) { m.Sub = 1 },
	} {
		m := snap
		change(&m)
		n.Handle(m, 0)
		is(t, "Done", n.Done(0), 1)
		is(t, "sessions", len(n.Table(0).Sessions()), 1)
		is(t, "Done", n.Done(1), 0)
	}
	n.Handle(snap, 0)
	sends(t, n)
	is(t, "Done", n.Done(0), 4)
	is(t, "Did", slices.Equal(n.Did(), []Did{{0, 1, opens(1, 1)}, {0, 4, opens(4, 1)}}), true)
	x.Apply(opens(4, 1))
	is(t, "Table", bytes(n.Table(0)), bytes(x))
	base, text := kept(t, d.Clone(), false).Image(0)
	is(t, "base", base, 3)
	is(t, "image", text, snap.Text)
	is(t, "Log", len(n.Log(0, 0, 9)), 1)
	n.Handle(snap, 0)
	is(t, "Done", n.Done(0), 4)
}

// P25.1: a text that no Promise could list is not accepted.
func TestLongText(t *testing.T) {
	n := fresh(t, config(3), 0)
	m := from(1, msg.Accept, ball(1, 1), 1)
	m.Text = strings.Repeat("x", api.MaxValue+1)
	n.Handle(m, 0)
	sends(t, n)
	m.Text = m.Text[1:]
	n.Handle(m, 0)
	sends(t, n, msg.Msg{Kind: msg.Accepted, To: 1, Ballot: ball(1, 1), Slot: 1})
}

// P25.1: Owner is the node that is believed to own the subtree; when nothing was
// heard of it for longer than Patience, it is forgotten at the next Tick.
func TestBelief(t *testing.T) {
	for _, kind := range []int{msg.Chosen, msg.Accept, msg.Ask} {
		n := fresh(t, config(3), 0)
		n.Handle(from(1, kind, ball(3, 1), 0), 7)
		is(t, "Owner", n.Owner(0), 1)
		is(t, "Owner", n.Owner(1), -1)
		n.Tick(47)
		is(t, "Owner", n.Owner(0), 1)
		n.Tick(48)
		is(t, "Owner", n.Owner(0), -1)
		n.Handle(from(1, kind, ball(3, 1), 0), 50)
		n.Handle(from(1, kind, ball(3, 1), 0), 60)
		n.Tick(100)
		is(t, "Owner", n.Owner(0), 1)
		n.Handle(from(2, kind, ball(2, 2), 0), 100) // an earlier owner
		is(t, "Owner", n.Owner(0), 1)
		n.Handle(from(2, kind, ball(3, 2), 0), 100)
		is(t, "Owner", n.Owner(0), 2)
	}
	n := fresh(t, config(3), 0)
	for _, kind := range []int{msg.Prepare, msg.Promise, msg.Accepted, msg.Refuse, msg.Fetch, msg.Give, msg.Snap, msg.Grant, msg.Call, msg.Reply} {
		n.Handle(from(1, kind, ball(3, 1), 0), 7)
		is(t, "Owner", n.Owner(0), -1)
	}
	// A node that is not Idle does not forget.
	n = fresh(t, config(3), 0)
	n.Handle(from(1, msg.Ask, ball(3, 1), 0), 7)
	n.Steal(0, 47)
	n.Tick(50)
	is(t, "Owner", n.Owner(0), 1)
	is(t, "Role", n.Role(0), propose.Trying)
}
