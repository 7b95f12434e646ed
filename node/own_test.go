package node

import (
	"testing"

	"chatelaine/api"
	"chatelaine/ballot"
	"chatelaine/disk"
	"chatelaine/image"
	"chatelaine/keep"
	"chatelaine/msg"
	"chatelaine/propose"
	"chatelaine/table"
)

// own returns node 0 of three, which is a ready owner of subtree 0 by {1, 0},
// and has sent everything.
func own(t *testing.T, c Config) *Node {
	t.Helper()
	n := fresh(t, c, 0)
	n.Steal(0, 0)
	for id := 1; id < c.Grid.Len(); id++ {
		n.Handle(from(id, msg.Promise, ball(1, 0), 0), 0)
	}
	is(t, "Ready", n.Ready(0), true)
	flush(t, n)
	return n
}

// accepts returns the Accept of {1, 0} to the nodes 1 and 2.
func accepts(slot int, text string) []msg.Msg {
	return to(msg.Msg{Kind: msg.Accept, Ballot: ball(1, 0), Slot: slot, Text: text}, 1, 2)
}

// tells returns the Chosen of {1, 0} to the nodes 1 and 2.
func tells(slot int) []msg.Msg {
	return to(msg.Msg{Kind: msg.Chosen, Ballot: ball(1, 0), Slot: slot}, 1, 2)
}

// asks returns the Ask of {1, 0} to the nodes 1 and 2.
func asks(time int) []msg.Msg {
	return to(msg.Msg{Kind: msg.Ask, Ballot: ball(1, 0), Time: time}, 1, 2)
}

// join returns all these messages.
func join(l ...[]msg.Msg) []msg.Msg {
	var all []msg.Msg
	for _, m := range l {
		all = append(all, m...)
	}
	return all
}

// agree lets node 1 accept these slots.
func agree(n *Node, now int, slots ...int) {
	for _, slot := range slots {
		n.Handle(from(1, msg.Accepted, n.Ballot(0), slot), now)
	}
}

// grants lets node 1 grant the round that began at a time.
func grants(n *Node, time, now int) {
	m := from(1, msg.Grant, n.Ballot(0), 0)
	m.Time = time
	n.Handle(m, now)
}

// P25.1: an owner sends Accept for each proposal, and again at each Tick, and
// Chosen with Done at each Tick.
func TestOwner(t *testing.T) {
	n := own(t, config(3))
	n.Tick(1)
	sends(t, n, join(tells(0), asks(1))...)
	grants(n, 1, 1)
	is(t, "Call", n.Call(0, opens(1, 1), 1), api.OK)
	sends(t, n, accepts(1, opens(1, 1))...)
	is(t, "Call", n.Call(0, opens(2, 1), 1), api.OK)
	sends(t, n, accepts(2, opens(2, 1))...)
	n.Tick(2)
	sends(t, n, join(accepts(1, opens(1, 1)), accepts(2, opens(2, 1)), tells(0))...)
	agree(n, 2, 2)
	is(t, "Done", n.Done(0), 0)
	n.Tick(3)
	sends(t, n, join(accepts(1, opens(1, 1)), tells(0))...)
	agree(n, 3, 1)
	is(t, "Done", n.Done(0), 2)
	_, answers := flush(t, n)
	is(t, "answers", len(answers), 2)
	for i, a := range answers {
		is(t, "the answer", a.Client == i+1 && a.Seq == 1 && a.Final && table.Same(a.Reply, table.Reply{Session: i + 1}), true)
	}
	n.Tick(3)
	sends(t, n, tells(2)...)
	is(t, "callers", len(n.parts[0].callers), 0)
}

// P25.1: many commands that are not flushed are accepted as well.
func TestManyCommands(t *testing.T) {
	c := config(3)
	c.Fold = 32
	n := own(t, c)
	for slot := 1; slot <= 200; slot++ {
		is(t, "Call", n.Call(0, opens(1, slot), 0), api.OK)
		if slot >= api.MaxWindow {
			agree(n, 0, slot-api.MaxWindow+1)
			is(t, "Done", n.Done(0), slot-api.MaxWindow+1)
		}
	}
	flush(t, n)
	is(t, "Done", n.Done(0), 197)
}

// P25.1: Ask is sent for the last round as long as that has not been granted and
// is younger than Term, and otherwise for a new round when Every has passed.
func TestLease(t *testing.T) {
	n := own(t, config(3))
	asked := func(now int, want ...msg.Msg) {
		t.Helper()
		n.Tick(now)
		sends(t, n, join(tells(0), want)...)
	}
	holds := func(now int, want bool) {
		t.Helper()
		is(t, "Holds", n.Holds(0, now), want)
		_, _, e := n.Read(0, 1, at("/a"), now)
		is(t, "Read", e == api.OK, want)
		is(t, "Read", e == api.ErrLease, !want)
	}
	holds(0, false)
	asked(5, asks(5)...)
	holds(5, false)
	asked(5, asks(5)...)
	asked(6, asks(5)...)
	asked(14, asks(5)...)
	asked(15, asks(15)...) // Term has passed.
	grants(n, 5, 15)
	holds(15, false)
	grants(n, 15, 16)
	holds(16, true)
	holds(24, true)
	holds(25, false)
	asked(17)
	asked(18, asks(18)...) // Every has passed.
	asked(19, asks(18)...)
	grants(n, 18, 19)
	asked(20)
	holds(27, true)
	holds(28, false)
	asked(40, asks(40)...)
	holds(40, false)
}

// P25.1: a node that is not ready does not ask for the lease.
func TestNoLeaseBeforeReady(t *testing.T) {
	n := fresh(t, config(3), 0)
	n.Steal(0, 0)
	m := from(1, msg.Promise, ball(1, 0), 0)
	m.List = []msg.Entry{{Slot: 1, Ballot: ball(1, 1), Text: "x"}}
	n.Handle(m, 0)
	flush(t, n)
	n.Tick(1)
	sends(t, n, join(accepts(1, "x"), tells(0))...)
	is(t, "Call", n.Call(0, opens(1, 1), 1), api.ErrOwner)
	sends(t, n)
	agree(n, 1, 1)
	n.Tick(1)
	sends(t, n, join(tells(1), asks(1))...)
}

// P25.1: an owner that receives a Prepare with a greater ballot yields: it
// remains the owner and holds its lease, but begins no further round.
func TestYield(t *testing.T) {
	n := own(t, config(3))
	n.Tick(1)
	grants(n, 1, 1)
	flush(t, n)
	n.Handle(from(2, msg.Prepare, ball(1, 0), 1), 2) // No greater one.
	n.Handle(from(2, msg.Prepare, ballot.Ballot{}, 1), 2)
	n.Tick(4)
	out, _ := flush(t, n)
	is(t, "messages", len(out), 6)
	grants(n, 4, 4)
	n.Handle(from(2, msg.Prepare, ball(2, 2), 1), 5)
	sends(t, n, msg.Msg{Kind: msg.Refuse, To: 2, Ballot: ball(1, 0), Time: 10}) // until 4 + 11
	is(t, "Owner", n.Owner(0), 0)
	is(t, "Holds", n.Holds(0, 13), true)
	for now := 7; now < 40; now++ {
		n.Tick(now)
		sends(t, n, tells(0)...)
		is(t, "Holds", n.Holds(0, now), now < 14)
	}
	is(t, "Ready", n.Ready(0), true)
	n.Handle(from(2, msg.Prepare, ball(2, 2), 1), 40)
	sends(t, n, msg.Msg{Kind: msg.Promise, To: 2, Ballot: ball(2, 2)})
	is(t, "Ready", n.Ready(0), true)

	// As long as the last round has not been granted, it goes on.
	n = own(t, config(3))
	n.Tick(1)
	n.Handle(from(2, msg.Prepare, ball(2, 2), 1), 1)
	flush(t, n)
	n.Tick(10)
	sends(t, n, join(tells(0), asks(1))...)
	n.Tick(11)
	sends(t, n, tells(0)...)

	// When it is the owner again, it asks again.
	n.Handle(from(2, msg.Refuse, ball(2, 2), 0), 30)
	n.Steal(0, 30)
	n.Handle(from(1, msg.Promise, ball(3, 0), 0), 30)
	flush(t, n)
	is(t, "Ready", n.Ready(0), true)
	n.Tick(31)
	out, _ = flush(t, n)
	is(t, "Ask", out[2].Kind, msg.Ask)
}

// P25.1: an owner that is refused because of a greater ballot, by another node
// or by itself, or receives a Chosen with one, is no longer the owner; and
// clients that called it and have no answer yet receive none from it.
func TestNoLongerOwner(t *testing.T) {
	for i, x := range []struct {
		m     msg.Msg
		owner int
	}{
		{from(1, msg.Refuse, ball(2, 2), 0), -1},
		{from(2, msg.Chosen, ball(1, 2), 0), 2},
		{from(1, msg.Accept, ball(2, 1), 9), 0}, // The acceptor refuses the node itself.
	} {
		n := own(t, config(3))
		n.Tick(1)
		grants(n, 1, 1)
		is(t, "Holds", n.Holds(0, 2), true)
		is(t, "Call", n.Call(0, opens(1, 1), 2), api.OK)
		flush(t, n)
		n.Handle(x.m, 2)
		is(t, "Owner", n.Owner(0), x.owner)
		n.Tick(3)
		is(t, "Role", n.Role(0), propose.Idle)
		is(t, "Ready", n.Ready(0), false)
		is(t, "Holds", n.Holds(0, 3), false)
		is(t, "Ballot", n.Ballot(0), ball(1, 0))
		out, _ := flush(t, n)
		for _, m := range out {
			is(t, "a Chosen", m.Kind == msg.Chosen, false)
		}
		n.Tick(3)
		sends(t, n)

		// The command is chosen all the same, with another ballot of this node.
		n.Handle(from(2, msg.Refuse, ball(2, 2), 0), 20)
		n.Steal(0, 20)
		is(t, "Ballot", n.Ballot(0), ball(3, 0))
		n.Handle(from(1, msg.Promise, ball(3, 0), 0), 20)
		agree(n, 20, 1, 2, 3, 4, 5, 6, 7, 8, 9)
		is(t, "Done", n.Done(0), [...]int{1, 1, 9}[i])
		is(t, "Holds", n.Holds(0, 20), false)
		_, answers := flush(t, n)
		is(t, "answers", len(answers), 0)
	}
}

// P25.1: what does not end the ownership.
func TestStillOwner(t *testing.T) {
	n := own(t, config(3))
	for _, kind := range []int{msg.Refuse, msg.Chosen, msg.Ask, msg.Accept} {
		for _, b := range []ballot.Ballot{{}, ball(1, 0)} {
			n.Handle(from(1, kind, b, 0), 0)
		}
	}
	n.Tick(40)
	is(t, "Ready", n.Ready(0), true)
	is(t, "Owner", n.Owner(0), 0)
	is(t, "Steal", n.Steal(0, 40), api.OK)
	is(t, "Ballot", n.Ballot(0), ball(1, 0))
	flush(t, n)

	// It ignores Give, Snap and a Chosen with a lesser ballot.
	n.Handle(msg.Msg{Kind: msg.Give, From: 1, List: []msg.Entry{{Slot: 1, Text: "x"}}}, 41)
	n.Handle(msg.Msg{Kind: msg.Snap, From: 1, Slot: 3, Text: image.Write(table.New(at("/a"), 0), 3)}, 41)
	n.Handle(from(1, msg.Chosen, ballot.Ballot{}, 3), 41)
	sends(t, n)
	is(t, "Done", n.Done(0), 0)
}

// kept returns what a disk stores.
func kept(t *testing.T, d *disk.Disk, witness bool) *keep.Store {
	t.Helper()
	s, e := keep.Open(d, witness, 2)
	is(t, "keep.Open", e, api.OK)
	return s
}

// P25.1: after Fold commands the node creates an image.
func TestFold(t *testing.T) {
	for _, fold := range []int{1, 3, 32} {
		c := config(1)
		c.Fold = fold
		d := disk.New(1 << 20)
		n := open0(t, c, 0, d)
		n.Steal(1, 0)
		for i := 1; i <= 70; i++ {
			is(t, "Call", n.Call(1, opens(1, i), 0), api.OK)
			flush(t, n)
			s := kept(t, d.Clone(), false)
			base, text := s.Image(1)
			is(t, "base", base, i/fold*fold)
			is(t, "Log", len(n.Log(1, 0, 100)), i%fold)
			if i%fold == 0 {
				is(t, "image", text, image.Write(n.Table(1), i))
			}
			other, _ := s.Image(0)
			is(t, "base of the other subtree", other, 0)
		}
	}
}

// keeps renews session 1 of client 1.
func keeps(seq int) string {
	return table.Cmd{Kind: table.Keep, Client: 1, Seq: seq, Session: 1}.Text()
}

// P25.1: when Lease has passed since a session was opened or renewed, the owner
// proposes Expire with its Count.
func TestExpire(t *testing.T) {
	n := own(t, config(3))
	expires := func(slot, count int) []msg.Msg {
		return accepts(slot, table.Cmd{Kind: table.Expire, Session: 1, Count: count}.Text())
	}
	n.Call(0, opens(1, 1), 10)
	n.Tick(12)
	grants(n, 12, 12)
	agree(n, 13, 1) // It is opened when it is executed.
	flush(t, n)
	n.Call(0, keeps(2), 20)
	agree(n, 21, 2)
	flush(t, n)
	n.Tick(50)
	out, _ := flush(t, n)
	is(t, "messages", len(out), 4) // Chosen and Ask
	n.Tick(51)
	out, _ = flush(t, n)
	is(t, "messages", len(out), 6)
	for i, want := range expires(3, 1) {
		want.From = 0
		is(t, "Expire", msg.Same(out[i+4], want), true)
	}
	// It is proposed only once.
	n.Tick(52)
	out, _ = flush(t, n)
	is(t, "messages", len(out), 6)
	is(t, "slot", out[0].Slot, 3)
	is(t, "slot", out[1].Slot, 3)
	// A renewal that comes first counts.
	n.Call(0, keeps(3), 52)
	agree(n, 53, 4, 3)
	is(t, "Done", n.Done(0), 4)
	is(t, "sessions", len(n.Table(0).Sessions()), 0)

	n = own(t, config(3))
	n.Call(0, opens(1, 1), 0)
	agree(n, 0, 1)
	n.Call(0, keeps(2), 29)
	n.Tick(30)
	flush(t, n)
	agree(n, 31, 3, 2)
	is(t, "Done", n.Done(0), 3)
	_, count, is1 := n.Table(0).Session(1)
	is(t, "renewals", count, 1)
	is(t, "session", is1, true)
	n.Tick(60)
	out, _ = flush(t, n)
	is(t, "first", out[0].Kind, msg.Chosen)
	n.Tick(61)
	out, _ = flush(t, n)
	is(t, "last", out[len(out)-1].Text, expires(4, 1)[0].Text)
}

// P25.1: a session that there was before lasts from when the owner is ready.
func TestExpireOfEarlierSessions(t *testing.T) {
	n := fresh(t, config(3), 0)
	n.Handle(msg.Msg{Kind: msg.Give, From: 1, List: []msg.Entry{{Slot: 1, Text: opens(1, 1)}}}, 0)
	n.Steal(0, 5)
	m := from(1, msg.Promise, ball(1, 0), 0)
	m.List = []msg.Entry{{Slot: 2, Ballot: ball(1, 1), Text: opens(2, 1)}}
	n.Handle(m, 6)
	is(t, "Owner", n.Owner(0), 0)
	agree(n, 10, 2)
	is(t, "Ready", n.Ready(0), true)
	n.Tick(39)
	out, _ := flush(t, n)
	for _, m := range out {
		is(t, "an Accept of slot 3", m.Kind == msg.Accept && m.Slot > 2, false)
	}
	n.Tick(40)
	agree(n, 40, 3, 4)
	is(t, "sessions", len(n.Table(0).Sessions()), 0)

	// Also if the node is ready at once.
	n = fresh(t, config(3), 0)
	n.Handle(msg.Msg{Kind: msg.Give, From: 1, List: []msg.Entry{{Slot: 1, Text: opens(1, 1)}}}, 0)
	n.Steal(0, 5)
	n.Handle(from(1, msg.Promise, ball(1, 0), 0), 6)
	is(t, "Ready", n.Ready(0), true)
	n.Tick(35)
	agree(n, 35, 2)
	is(t, "sessions", len(n.Table(0).Sessions()), 1)
	n.Tick(36)
	agree(n, 36, 2)
	is(t, "sessions", len(n.Table(0).Sessions()), 0)

	// Not while the node is not ready.
	n = fresh(t, config(3), 0)
	n.Handle(msg.Msg{Kind: msg.Give, From: 1, List: []msg.Entry{{Slot: 1, Text: opens(1, 1)}}}, 0)
	n.Steal(0, 5)
	n.Handle(m, 6)
	n.Tick(100)
	out, _ = flush(t, n)
	is(t, "last", out[len(out)-1].Kind, msg.Chosen)
	agree(n, 101, 2)
	n.Tick(130)
	out, _ = flush(t, n)
	is(t, "last", out[len(out)-1].Kind, msg.Ask)
	n.Tick(131)
	out, _ = flush(t, n)
	is(t, "last", out[len(out)-1].Kind, msg.Accept)
}

// P25.1: with four proposals under way, Expire waits.
func TestExpireIsBusy(t *testing.T) {
	n := own(t, config(3))
	n.Call(0, opens(1, 1), 0)
	agree(n, 0, 1)
	for seq := range api.MaxWindow {
		is(t, "Call", n.Call(0, opens(2, seq+1), 1), api.OK)
	}
	is(t, "Call", n.Call(0, opens(3, 1), 1), api.ErrBusy)
	n.Tick(30)
	flush(t, n)
	agree(n, 30, 2)
	n.Tick(30)
	agree(n, 30, 3, 4, 5, 6)
	is(t, "Done", n.Done(0), 6)
	is(t, "session 1", n.Table(0).Sessions()[0], 2)
}

// P25.1: a single node expires all sessions at once.
func TestExpireOfSingleNode(t *testing.T) {
	n := fresh(t, config(1), 0)
	n.Steal(0, 0)
	for client := 1; client <= api.MaxSessions; client++ {
		n.Call(0, opens(client, 1), client)
	}
	for now := 10; now < 40; now++ {
		n.Tick(now)
		is(t, "sessions", len(n.Table(0).Sessions()), min(8, max(0, 38-now)))
	}
}
