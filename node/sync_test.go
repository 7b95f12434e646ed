package node

import (
	"math/rand"
	"slices"
	"testing"

	"chatelaine/accept"
	"chatelaine/api"
	"chatelaine/ballot"
	"chatelaine/disk"
	"chatelaine/grid"
	"chatelaine/lease"
	"chatelaine/msg"
	"chatelaine/propose"
	"chatelaine/table"
)

// duty is what a node has said about a subtree, and must not forget.
type duty struct {
	promised ballot.Ballot
	accepted map[int]msg.Entry
	holder   int
	until    int
}

// world is nodes with their disks and the messages between them.
type world struct {
	t      *testing.T
	g      *rand.Rand
	c      Config
	disks  []*disk.Disk
	nodes  []*Node // nil for one that is down
	duties [][]duty
	fly    []msg.Msg
	now    int
	texts  []map[int]string // what was executed, for each subtree
	seq    int
	owners map[ballot.Ballot]bool

	said, opened, folded int // so many messages, Opens, images
}

func newWorld(t *testing.T, g *rand.Rand) *world {
	all := []Config{config(1), config(3), withWitness()}
	all[2].Grid.First = grid.Kind{Zones: 1, Nodes: 3}
	all[2].Grid.Second = all[2].Grid.First
	w := &world{t: t, g: g, c: all[g.Intn(3)], texts: []map[int]string{{}, {}}, owners: map[ballot.Ballot]bool{}}
	w.c.Fold, w.c.Patience = 1+g.Intn(6), 1+g.Intn(10)
	for id := range w.c.Grid.Len() {
		w.disks = append(w.disks, disk.New(1<<20))
		w.nodes = append(w.nodes, open0(t, w.c, id, w.disks[id]))
		w.duties = append(w.duties, []duty{{accepted: map[int]msg.Entry{}}, {accepted: map[int]msg.Entry{}}})
	}
	return w
}

// witness reports whether a node is one.
func (w *world) witness(id int) bool { return w.c.Grid.Witnesses()&grid.Set(id) != 0 }

// record records what a node says.
func (w *world) record(m msg.Msg, sent map[[2]int]msg.Msg) {
	x := &w.duties[m.From][m.Sub]
	switch m.Kind {
	case msg.Promise, msg.Accepted, msg.Grant, msg.Refuse:
		x.promised = ballot.Max(x.promised, m.Ballot)
	}
	switch asked := sent[[2]int{m.To, m.From}]; m.Kind {
	case msg.Accepted:
		text := asked.Text
		if w.witness(m.From) {
			text = accept.Digest(text)
		}
		if m.Slot > 0 {
			x.accepted[m.Slot] = msg.Entry{Slot: m.Slot, Ballot: m.Ballot, Text: text}
		}
	case msg.Grant:
		x.holder, x.until = m.To, w.now+lease.Long(w.c.Rate, w.c.Term)
	}
}

// fulfils fails unless the node has stored all that it has said on that disk.
func (w *world) fulfils(id int, d *disk.Disk) {
	w.t.Helper()
	s := kept(w.t, d, w.witness(id))
	for sub, x := range w.duties[id] {
		a := s.Acceptor(sub)
		if ballot.Compare(a.Promised(), x.promised) < 0 {
			w.t.Fatalf("node %d has promised %v, not %v", id, a.Promised(), x.promised)
		}
		if node, until := a.Holder(); w.now < x.until && (node != x.holder || until < x.until) {
			w.t.Fatalf("node %d has granted %d until %d, not %d until %d", id, node, until, x.holder, x.until)
		}
		list := a.List()
		for slot, e := range x.accepted {
			i := slices.IndexFunc(list, func(e msg.Entry) bool { return e.Slot == slot })
			if slot <= a.Base() {
				continue
			}
			if i < 0 || ballot.Compare(list[i].Ballot, e.Ballot) < 0 || list[i].Ballot == e.Ballot && list[i].Text != e.Text {
				w.t.Fatalf("node %d has accepted %v, not %v", id, list, e)
			}
		}
	}
}

// result returns the table that the log of a subtree gives up to a slot.
func (w *world) result(sub, done int) string {
	x := table.New(at(w.c.Subs[sub]), 0)
	for slot := 1; slot <= done; slot++ {
		text, is := w.texts[sub][slot]
		if !is {
			w.t.Fatalf("nobody has executed slot %d of %d", slot, sub)
		}
		x.Apply(text)
	}
	return bytes(x)
}

// did records what a node has executed.
func (w *world) did(n *Node) {
	for _, d := range n.Did() {
		if old, is := w.texts[d.Sub][d.Slot]; is && old != d.Text {
			w.t.Fatalf("slot %d of %d: %q, not %q", d.Slot, d.Sub, d.Text, old)
		}
		w.texts[d.Sub][d.Slot] = d.Text
	}
}

// look compares the tables of a node with the logs.
func (w *world) look(id int) {
	if w.witness(id) {
		return
	}
	n := w.nodes[id]
	for sub := range w.c.Subs {
		done := n.Done(sub)
		is(w.t, "Table", bytes(n.Table(sub)), w.result(sub, done))
		log := n.Log(sub, 0, 1000)
		for i, e := range log {
			is(w.t, "the slot", e.Slot, done-len(log)+i+1)
			is(w.t, "the text", e.Text, w.texts[sub][e.Slot])
		}
	}
}

// flush flushes a node after it has done something in reply to a message.
func (w *world) flush(id int, cause msg.Msg) {
	d := w.disks[id]
	out, _, e := w.nodes[id].Flush()
	w.did(w.nodes[id])
	if e != api.OK {
		is(w.t, "Flush", e, api.ErrIO)
		w.nodes[id] = nil
		return
	}
	for _, m := range out {
		w.said++
		w.record(m, map[[2]int]msg.Msg{{cause.From, cause.To}: cause})
		w.fly = append(w.fly, m)
	}
	for range 3 {
		after := d.Clone()
		after.Crash(w.g.Int(), w.g.Int(), w.g.Int(), w.g.Int())
		w.fulfils(id, after)
	}
	w.look(id)
	for sub := range w.c.Subs {
		if w.nodes[id].Role(sub) == propose.Owner {
			w.owners[w.nodes[id].Ballot(sub)] = true
		}
	}
}

// start opens a node again after a crash.
func (w *world) start(id int) {
	w.disks[id].Crash(w.g.Int(), w.g.Int(), w.g.Int(), w.g.Int())
	w.nodes[id] = open0(w.t, w.c, id, w.disks[id])
	w.opened++
	w.fulfils(id, w.disks[id].Clone())
	w.look(id)
	for sub := range w.c.Subs {
		if w.nodes[id].Done(sub) > 0 {
			w.folded++
		}
	}
}

func (w *world) command() string {
	w.seq++
	client, session := 1+w.g.Intn(3), 1+w.g.Intn(3)
	c := table.Cmd{Kind: 1 + w.g.Intn(7), Client: client, Seq: w.seq, Session: session, Path: at("/a"), Excl: true, Wait: true}
	return c.Text()
}

func (w *world) step() {
	g, id := w.g, w.g.Intn(len(w.nodes))
	n, sub := w.nodes[id], w.g.Intn(2)
	if n == nil {
		if g.Intn(4) == 0 {
			w.start(id)
		}
		return
	}
	var cause msg.Msg
	switch x := g.Intn(100); {
	case x < 60 && len(w.fly) > 0:
		i := g.Intn(len(w.fly))
		cause = w.fly[i]
		if id = cause.To; g.Intn(10) > 0 {
			w.fly = slices.Delete(w.fly, i, i+1)
		}
		if n = w.nodes[id]; n == nil {
			return
		}
		n.Handle(cause, w.now)
	case x < 75:
		w.now += g.Intn(3)
		n.Tick(w.now)
	case x < 80:
		n.Steal(sub, w.now)
	case x < 96:
		n.Call(sub, w.command(), w.now)
	case x < 98:
		w.disks[id].Fail(g.Intn(12))
	default:
		w.nodes[id] = nil
		return
	}
	w.flush(id, cause)
}

// P25.2: whatever a crash leaves, a node has promised, accepted and granted no
// less than it has said; and P25.3: its table is the result of its log.
func TestSendsFollowSync(t *testing.T) {
	g := rand.New(rand.NewSource(1))
	var said, opened, folded, owners, slots int
	for range 150 {
		w := newWorld(t, g)
		for range 400 {
			w.step()
		}
		said += w.said
		opened += w.opened
		folded += w.folded
		owners += len(w.owners)
		slots += len(w.texts[0]) + len(w.texts[1])
	}
	if said < 20000 || opened < 1000 || folded < 100 || owners < 500 || slots < 1000 {
		t.Errorf("only %d messages, %d Opens, %d images, %d owners, %d slots", said, opened, folded, owners, slots)
	}
}
