package node

import (
	"math"
	"slices"
	"testing"

	"chatelaine/api"
	"chatelaine/ballot"
	"chatelaine/disk"
	"chatelaine/image"
	"chatelaine/msg"
	"chatelaine/propose"
	"chatelaine/table"
)

// prepares returns the Prepare to the nodes 1 and 2.
func prepares(b ballot.Ballot, slot int) []msg.Msg {
	return to(msg.Msg{Kind: msg.Prepare, Ballot: b, Slot: slot}, 1, 2)
}

// Example 1.
func TestExample(t *testing.T) {
	c := config(1)
	c.Subs = []string{"/"}
	n := fresh(t, c, 0)
	is(t, "Steal", n.Steal(0, 0), api.OK)
	is(t, "Ready", n.Ready(0), true)
	is(t, "Owner", n.Owner(0), 0)
	is(t, "Role", n.Role(0), propose.Owner)
	is(t, "Ballot", n.Ballot(0), ball(1, 0))
	is(t, "Promised", n.Promised(0), ball(1, 0))
	sends(t, n)
	is(t, "Call", n.Call(0, opens(1, 1), 0), api.OK)
	out, answers := flush(t, n)
	is(t, "messages", len(out), 0)
	is(t, "answers", len(answers), 1)
	a := answers[0]
	is(t, "the answer", a.Client == 1 && a.Seq == 1 && a.Final && table.Same(a.Reply, table.Reply{Session: 1}), true)
	_, answers = flush(t, n)
	is(t, "answers", len(answers), 0)
}

// P25.1: Steal sends Prepare with a ballot greater than all that the node has
// heard of, in whatever message, and the slot after Done.
func TestSteal(t *testing.T) {
	n := fresh(t, config(3), 0)
	is(t, "Steal", n.Steal(0, 7), api.OK)
	is(t, "Role", n.Role(0), propose.Trying)
	is(t, "Ballot", n.Ballot(0), ball(1, 0))
	is(t, "Promised", n.Promised(0), ball(1, 0))
	is(t, "Role", n.Role(1), propose.Idle)
	sends(t, n, prepares(ball(1, 0), 1)...)
	is(t, "Steal", n.Steal(0, 8), api.OK) // It is not Idle.
	sends(t, n)

	for _, kind := range []int{msg.Prepare, msg.Promise, msg.Accept, msg.Accepted, msg.Refuse, msg.Chosen, msg.Ask, msg.Grant} {
		n := fresh(t, config(3), 0)
		n.Handle(from(1, kind, ball(5, 1), 0), 0)
		flush(t, n)
		is(t, "Steal", n.Steal(0, 0), api.OK)
		is(t, "Ballot", n.Ballot(0), ball(6, 0))
	}
	n = fresh(t, config(3), 2)
	n.Handle(msg.Msg{Kind: msg.Prepare, From: 1, To: 2, Ballot: ball(5, 1)}, 0)
	n.Steal(0, 0)
	is(t, "Ballot", n.Ballot(0), ball(5, 2))
	n.Steal(1, 0) // Another subtree has its own ballots.
	is(t, "Ballot", n.Ballot(1), ball(1, 2))

	n = fresh(t, config(3), 0)
	n.Handle(msg.Msg{Kind: msg.Give, From: 1, List: []msg.Entry{{Slot: 1, Text: "a"}, {Slot: 2, Text: "b"}}}, 0)
	n.Steal(0, 0)
	sends(t, n, prepares(ball(1, 0), 3)...)
}

// P25.1: the node remembers the ballots that it has promised and those that it
// has used, and begins with the counter of the configuration.
func TestBallotsAreNotUsedAgain(t *testing.T) {
	d := disk.New(1 << 20)
	n := open0(t, config(3), 0, d)
	n.Steal(0, 0)
	flush(t, n)
	d.Crash()
	n = open0(t, config(3), 0, d)
	is(t, "Promised", n.Promised(0), ball(1, 0))
	is(t, "Ballot", n.Ballot(0), ballot.Ballot{})
	n.Steal(0, 0)
	is(t, "Ballot", n.Ballot(0), ball(2, 0))
	n.Handle(from(1, msg.Refuse, ball(2, 1), 0), 0)
	is(t, "Role", n.Role(0), propose.Idle)
	n.Steal(0, 0)
	is(t, "Ballot", n.Ballot(0), ball(3, 0))

	c := config(3)
	c.Counter = 9
	n = fresh(t, c, 0)
	n.Steal(0, 0)
	is(t, "Ballot", n.Ballot(0), ball(10, 0))
	n = fresh(t, c, 1)
	n.Steal(0, 0)
	is(t, "Ballot", n.Ballot(0), ball(9, 1))
}

// P25.1: there is no further ballot.
func TestExhaustedBallots(t *testing.T) {
	c := config(3)
	c.Counter = math.MaxUint64
	n := fresh(t, c, 0)
	is(t, "Steal", n.Steal(0, 0), api.ErrExhausted)
	is(t, "Role", n.Role(0), propose.Idle)
	is(t, "Call", n.Call(0, opens(1, 1), 0), api.ErrOwner)
	sends(t, n)
	n = fresh(t, c, 2)
	is(t, "Steal", n.Steal(0, 0), api.OK)
	is(t, "Ballot", n.Ballot(0), ball(math.MaxUint64, 2))
	n = fresh(t, config(3), 0)
	n.Handle(from(2, msg.Refuse, ball(math.MaxUint64, 0), 0), 0)
	is(t, "Steal", n.Steal(0, 0), api.ErrExhausted)
}

// P25.1: a node that is Trying sends Prepare again at each Tick, and gives up
// after Patience.
func TestPatience(t *testing.T) {
	c := config(3)
	c.Patience = 4
	n := fresh(t, c, 0)
	n.Steal(0, 10)
	sends(t, n, prepares(ball(1, 0), 1)...)
	for _, now := range []int{10, 11, 13, 14} {
		n.Tick(now)
		sends(t, n, prepares(ball(1, 0), 1)...)
		is(t, "Role", n.Role(0), propose.Trying)
	}
	n.Tick(15)
	sends(t, n)
	is(t, "Role", n.Role(0), propose.Idle)
	is(t, "Ballot", n.Ballot(0), ball(1, 0))
	n.Handle(from(1, msg.Promise, ball(1, 0), 0), 15)
	is(t, "Role", n.Role(0), propose.Idle)
	n.Tick(16)
	sends(t, n)
	is(t, "Steal", n.Steal(0, 16), api.OK)
	sends(t, n, prepares(ball(2, 0), 1)...)
	n.Tick(20)
	is(t, "Role", n.Role(0), propose.Trying)
}

// P25.1: with the promises of a quorum, to which its own counts, the node is the
// owner, and proposes again what it has found.
func TestLead(t *testing.T) {
	n := fresh(t, config(3), 0)
	n.Steal(0, 0)
	flush(t, n)
	m := from(1, msg.Promise, ball(1, 0), 0)
	m.List = []msg.Entry{{Slot: 1, Ballot: ball(1, 1), Text: opens(1, 1)}, {Slot: 3, Ballot: ball(2, 1), Text: "x"}}
	wrong := m
	wrong.Ballot = ball(1, 1)
	n.Handle(wrong, 0)
	is(t, "Role", n.Role(0), propose.Trying)
	n.Handle(m, 0)
	is(t, "Role", n.Role(0), propose.Owner)
	is(t, "Owner", n.Owner(0), 0)
	is(t, "Ready", n.Ready(0), false)
	var want []msg.Msg
	for i, text := range []string{opens(1, 1), "", "x"} {
		want = append(want, to(msg.Msg{Kind: msg.Accept, Ballot: ball(1, 0), Slot: i + 1, Text: text}, 1, 2)...)
	}
	sends(t, n, want...)
	n.Tick(1)
	out, _ := flush(t, n)
	is(t, "Accept again", slices.EqualFunc(out[:6], want, msg.Same), true)

	n.Handle(from(2, msg.Accepted, ball(1, 0), 3), 1)
	n.Handle(from(2, msg.Accepted, ball(1, 0), 1), 1)
	is(t, "Done", n.Done(0), 1)
	is(t, "Ready", n.Ready(0), false)
	is(t, "Call", n.Call(0, opens(1, 2), 1), api.ErrOwner)
	_, _, e := n.Read(0, 1, at("/a"), 1)
	is(t, "Read", e, api.ErrOwner)
	n.Handle(from(1, msg.Accepted, ball(1, 0), 2), 1)
	is(t, "Done", n.Done(0), 3)
	is(t, "Ready", n.Ready(0), true)
	is(t, "sessions", slices.Equal(n.Table(0).Sessions(), []int{1}), true)
	sends(t, n)
	is(t, "Did", slices.Equal(n.Did(), []Did{{0, 1, opens(1, 1)}, {0, 2, ""}, {0, 3, "x"}}), true)
	is(t, "Did", len(n.Did()), 0)
}

// P25.1: a node with nothing to find is ready at once, also if the quorum is one
// of the others.
func TestLeadOfOthers(t *testing.T) {
	n := fresh(t, config(3), 0)
	n.Handle(from(2, msg.Ask, ball(1, 2), 0), 0)
	flush(t, n)
	n.Steal(0, 5)
	is(t, "Promised", n.Promised(0), ball(1, 2)) // It grants node 2 the lease.
	sends(t, n, prepares(ball(2, 0), 1)...)
	n.Handle(from(1, msg.Promise, ball(2, 0), 0), 5)
	is(t, "Role", n.Role(0), propose.Trying)
	n.Tick(11)
	flush(t, n)
	is(t, "Promised", n.Promised(0), ball(2, 0)) // The grant has ended.
	is(t, "Ready", n.Ready(0), true)

	n = fresh(t, config(3), 0)
	n.Handle(from(2, msg.Ask, ball(1, 2), 0), 0)
	n.Steal(0, 5)
	flush(t, n)
	n.Handle(from(1, msg.Promise, ball(2, 0), 0), 5)
	n.Handle(from(2, msg.Promise, ball(2, 0), 0), 5)
	is(t, "Ready", n.Ready(0), true)
	// An owner has promised its own ballot, so it does not use it again.
	is(t, "Promised", n.Promised(0), ball(2, 0))
	sends(t, n)
}

// P25.1: an attempt fails if the node itself has promised a greater ballot.
func TestLeadWithLesserBallot(t *testing.T) {
	n := fresh(t, config(3), 0)
	n.Steal(0, 0)
	n.Handle(from(1, msg.Prepare, ball(3, 1), 1), 0)
	flush(t, n)
	is(t, "Role", n.Role(0), propose.Trying)
	m := from(2, msg.Promise, ball(1, 0), 0)
	m.List = []msg.Entry{{Slot: 1, Ballot: ball(1, 1), Text: "x"}}
	n.Handle(m, 0)
	is(t, "Role", n.Role(0), propose.Idle)
	is(t, "Owner", n.Owner(0), -1)
	sends(t, n)
}

// P25.1: a Refuse with a greater ballot ends the attempt; another one does not.
func TestRefusedAttempt(t *testing.T) {
	n := fresh(t, config(3), 0)
	n.Handle(from(2, msg.Chosen, ball(1, 2), 0), 0)
	n.Steal(0, 0)
	flush(t, n)
	for _, b := range []ballot.Ballot{{}, ball(1, 2), ball(2, 0)} {
		m := from(1, msg.Refuse, b, 0)
		m.Time = 5
		n.Handle(m, 0)
		is(t, "Role", n.Role(0), propose.Trying)
	}
	n.Handle(from(1, msg.Refuse, ball(2, 1), 0), 0)
	is(t, "Role", n.Role(0), propose.Idle)
	is(t, "Owner", n.Owner(0), 2)
	sends(t, n)
}

// P25.1: if a Promise reports a base above Done, the node first sends Fetch, and
// again at each Tick; the Snap makes it the owner.
func TestNeeds(t *testing.T) {
	n := fresh(t, config(4), 0)
	n.Steal(0, 0)
	flush(t, n)
	fetch := msg.Msg{Kind: msg.Fetch, To: 2, Slot: 1}
	n.Handle(from(1, msg.Promise, ball(1, 0), 0), 0)
	sends(t, n)
	n.Handle(from(2, msg.Promise, ball(1, 0), 4), 0)
	sends(t, n, fetch)
	n.Handle(from(3, msg.Promise, ball(1, 0), 2), 0)
	sends(t, n, fetch)
	is(t, "Role", n.Role(0), propose.Trying)
	n.Tick(1)
	sends(t, n, append(to(msg.Msg{Kind: msg.Prepare, Ballot: ball(1, 0), Slot: 1}, 1, 2, 3), fetch)...)
	// A Give of less than that is not enough.
	n.Handle(msg.Msg{Kind: msg.Give, From: 1, List: []msg.Entry{{Slot: 1, Text: opens(1, 1)}, {Slot: 2}}}, 1)
	is(t, "Done", n.Done(0), 2)
	is(t, "Role", n.Role(0), propose.Trying)
	n.Tick(2)
	fetch.Slot = 3
	sends(t, n, append(to(msg.Msg{Kind: msg.Prepare, Ballot: ball(1, 0), Slot: 3}, 1, 2, 3), fetch)...)
	x := table.New(at("/a"), 0)
	x.Apply(opens(1, 1))
	n.Handle(msg.Msg{Kind: msg.Snap, From: 2, Slot: 4, Text: image.Write(x, 4)}, 2)
	is(t, "Done", n.Done(0), 4)
	is(t, "Ready", n.Ready(0), true)
	sends(t, n)

	// The base of a witness does not count.
	n = fresh(t, withWitness(), 0)
	n.Steal(0, 0)
	flush(t, n)
	n.Handle(from(1, msg.Promise, ball(1, 0), 0), 0)
	n.Handle(from(3, msg.Promise, ball(1, 0), 4), 0)
	sends(t, n)
	is(t, "Ready", n.Ready(0), true)
}

// P25.1: Accepted, Promise and Grant of earlier attempts do not count.
func TestOldReplies(t *testing.T) {
	n := fresh(t, config(3), 0)
	n.Steal(0, 0)
	n.Handle(from(1, msg.Refuse, ball(1, 1), 0), 0)
	n.Steal(0, 0)
	is(t, "Ballot", n.Ballot(0), ball(2, 0))
	n.Handle(from(1, msg.Promise, ball(1, 0), 0), 0)
	is(t, "Role", n.Role(0), propose.Trying)
	n.Handle(from(1, msg.Promise, ball(2, 0), 0), 0)
	is(t, "Ready", n.Ready(0), true)
	n.Call(0, opens(1, 1), 0)
	n.Handle(from(1, msg.Accepted, ball(1, 0), 1), 0)
	n.Handle(from(1, msg.Accepted, ball(2, 0), 2), 0)
	is(t, "Done", n.Done(0), 0)
	n.Tick(0)
	n.Handle(from(1, msg.Grant, ball(1, 0), 0), 0)
	is(t, "Holds", n.Holds(0, 0), false)
	n.Handle(from(1, msg.Grant, ball(2, 0), 0), 0)
	is(t, "Holds", n.Holds(0, 0), true)
	n.Handle(from(1, msg.Accepted, ball(2, 0), 1), 0)
	is(t, "Done", n.Done(0), 1)
}

// P26.1, P2: node 0 executes slot 1, and asks with a ballot that it cannot store,
// since it grants node 2 the lease. After a crash it uses that ballot again, and
// the Promise to its first Prepare, which lists nothing up to slot 1, arrives: it
// must not count, because node 0 does not know slot 1 any more.
func TestPromiseToAnEarlierLife(t *testing.T) {
	d := disk.New(1 << 20)
	n := open0(t, config(3), 0, d)
	n.Handle(msg.Msg{Kind: msg.Give, From: 2, List: []msg.Entry{{Slot: 1, Text: "chosen"}}}, 0)
	n.Handle(from(2, msg.Ask, ball(1, 2), 0), 0)
	n.Steal(0, 0)
	is(t, "Promised", n.Promised(0), ball(1, 2))
	out, _ := flush(t, n)
	other := fresh(t, config(3), 1)
	other.Handle(msg.Msg{Kind: msg.Accept, From: 2, To: 1, Ballot: ball(1, 2), Slot: 1, Text: "chosen"}, 0)
	flush(t, other)
	for _, m := range out {
		other.Handle(m, 0)
	}
	promise, _ := flush(t, other)
	is(t, "promises", len(promise), 1)
	is(t, "entries", len(promise[0].List), 0)

	d.Crash()
	n = open0(t, config(3), 0, d)
	is(t, "Done", n.Done(0), 0)
	n.Steal(0, 20)
	is(t, "Ballot", n.Ballot(0), ball(2, 0))
	out, _ = flush(t, n)
	n.Handle(promise[0], 20)
	is(t, "Role", n.Role(0), propose.Trying)
	for _, m := range out {
		other.Handle(m, 20)
	}
	promise, _ = flush(t, other)
	n.Handle(promise[0], 20)
	is(t, "Role", n.Role(0), propose.Owner)
	sends(t, n, to(msg.Msg{Kind: msg.Accept, Ballot: ball(2, 0), Slot: 1, Text: "chosen"}, 1, 2)...)
}

// P25.1: a Promise lists the entries from the slot on that was asked for.
func TestPromise(t *testing.T) {
	n := fresh(t, config(3), 0)
	var all []msg.Entry
	for slot := 1; slot <= 4; slot++ {
		m := from(1, msg.Accept, ball(1, 1), slot)
		m.Text = "x"
		n.Handle(m, 0)
		all = append(all, msg.Entry{Slot: slot, Ballot: ball(1, 1), Text: "x"})
	}
	flush(t, n)
	for slot := range 6 {
		n.Handle(from(2, msg.Prepare, ball(2, 2), slot), 0)
		out, _ := flush(t, n)
		is(t, "Kind", out[0].Kind, msg.Promise)
		is(t, "List", slices.Equal(out[0].List, all[max(0, slot-1):]), true)
	}
}
