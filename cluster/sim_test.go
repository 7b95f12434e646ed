package cluster

import (
	"math/rand"
	"testing"

	"chatelaine/api"
	"chatelaine/ballot"
	"chatelaine/code"
	"chatelaine/disk"
	"chatelaine/drift"
	"chatelaine/fault"
	"chatelaine/grid"
	"chatelaine/keep"
	"chatelaine/lease"
	"chatelaine/node"
	"chatelaine/propose"
	"chatelaine/steal"
	"chatelaine/table"
)

// kind returns the kind of quorums of so many nodes in so many regions.
func kind(zones, nodes int) grid.Kind { return grid.Kind{Zones: zones, Nodes: nodes} }

// grids returns configurations with quorums of all kinds, with and without
// witnesses.
func grids() []grid.Config {
	return []grid.Config{
		{Regions: 1, Per: 1, First: kind(1, 1), Second: kind(1, 1)},
		{Regions: 1, Per: 3, First: kind(1, 2), Second: kind(1, 2)},
		{Regions: 3, Per: 1, First: kind(2, 1), Second: kind(2, 1)},
		{Regions: 3, Per: 1, First: kind(3, 1), Second: kind(1, 1)},
		{Regions: 3, Per: 1, Witness: 4, First: kind(3, 1), Second: kind(2, 1)},
		{Regions: 1, Per: 4, Witness: 8, First: kind(1, 3), Second: kind(1, 3)},
		{Regions: 3, Per: 3, First: kind(2, 2), Second: kind(2, 2)},
		{Regions: 2, Per: 2, First: kind(2, 1), Second: kind(1, 2)},
		{Regions: 3, Per: 2, Witness: 4, First: kind(3, 2), Second: kind(1, 2)},
		{Regions: 4, Per: 3, First: kind(3, 2), Second: kind(2, 2)},
	}
}

// anyConfig returns any configuration with durations that are not too long.
func anyConfig(g *rand.Rand) node.Config {
	all := grids()
	c := node.Config{
		Grid: all[g.Intn(len(all))], Subs: []string{"/a", "/b"}[:1+g.Intn(2)],
		Term: 1 + g.Intn(20), Rate: drift.Rate{P: 10 + g.Intn(6), Q: 10}, Lease: 1 + g.Intn(40),
		Policy: steal.Policy{Least: 1 + g.Intn(5), Span: 1 + g.Intn(30)}, Patience: 1 + g.Intn(40), Fold: 1 + g.Intn(32),
		Token: uint64(g.Intn(3)), Counter: uint64(g.Intn(3)),
	}
	if g.Intn(2) == 0 {
		c.Fold = 1 + g.Intn(4)
	}
	c.Every = 1 + g.Intn(c.Term)
	return c
}

// sim is a cluster to which anything happens, and what is known of it.
type sim struct {
	*Cluster
	t        *testing.T
	g        *rand.Rand
	config   node.Config
	even     bool             // whether the clocks fit
	most     int              // how many commands are called
	texts    []map[int]string // what was executed, for each subtree
	tables   [][]string       // the tables after that, from no command on
	last     []*table.Table   // the last of them
	seqs     [5]int           // the numbers of the clients' commands
	sessions [5][2]int        // the clients' sessions

	did, answers, fit, moves, images, started int
	holder                                    [2]int
}

func newSim(t *testing.T, g *rand.Rand, c node.Config) *sim {
	x, err := New(c, 1<<22)
	if err != nil {
		t.Fatal(err)
	}
	s := &sim{Cluster: x, t: t, g: g, config: c, even: g.Intn(3) > 0, most: 1000, holder: [2]int{-1, -1}}
	for _, root := range c.Subs {
		x := table.New(at(root), c.Token)
		s.texts = append(s.texts, map[int]string{})
		s.tables = append(s.tables, []string{bytes(x)})
		s.last = append(s.last, x)
	}
	return s
}

// result returns the table that the log of a subtree gives up to a slot.
func (s *sim) result(sub, done int) string {
	for slot := len(s.tables[sub]); slot <= done; slot++ {
		text, is := s.texts[sub][slot]
		if !is {
			s.t.Fatalf("nobody has executed slot %d of %d", slot, sub)
		}
		s.last[sub].Apply(text)
		s.tables[sub] = append(s.tables[sub], bytes(s.last[sub]))
	}
	return s.tables[sub][done]
}

// look checks what must hold at any time.
func (s *sim) look() {
	s.t.Helper()
	for _, d := range s.Dids() {
		s.did++
		if old, is := s.texts[d.Sub][d.Slot]; is && old != d.Text {
			s.t.Fatalf("slot %d of %d: %q at %d, not %q", d.Slot, d.Sub, d.Text, d.Node, old)
		}
		s.texts[d.Sub][d.Slot] = d.Text
	}
	for _, a := range s.Answers() {
		s.answers++
		if a.Reply.Session > 0 {
			s.sessions[a.Client] = [2]int{a.Reply.Session, a.Reply.Session}
		}
	}
	for sub := range s.config.Subs {
		s.lookAt(sub)
	}
}

// lookAt checks what must hold for a subtree: each owner has a ballot of its
// own, tables are the result of the log, and at most one node holds it.
func (s *sim) lookAt(sub int) {
	s.t.Helper()
	owners := map[ballot.Ballot]int{}
	held := 0
	for i := range s.config.Grid.Len() {
		n := s.Node(i)
		if n == nil {
			continue
		}
		if b := n.Ballot(sub); n.Role(sub) == propose.Owner {
			if other, is := owners[b]; is || b.N != i || b.None() {
				s.t.Fatalf("%d and %d own %d by %v", i, other, sub, b)
			}
			owners[b] = i
		}
		if x := n.Table(sub); x != nil && bytes(x) != s.result(sub, n.Done(sub)) {
			s.t.Fatalf("node %d: the table of %d is not the result of %d commands", i, sub, n.Done(sub))
		}
		if n.Holds(sub, s.Now(i)) {
			held++
			if i != s.holder[sub] {
				s.moves++
				s.holder[sub] = i
			}
		}
	}
	if held > 1 && s.Fits() {
		s.t.Fatalf("%d nodes hold %d", held, sub)
	}
	if held > 0 && s.Fits() {
		s.fit++
	}
}

// command returns any command for a subtree.
func (s *sim) command(sub int) string {
	g, client := s.g, 1+s.g.Intn(4)
	s.seqs[client] = max(1, s.seqs[client]+g.Intn(2))
	c := table.Cmd{
		Kind: 1 + g.Intn(7), Client: client, Seq: s.seqs[client], Session: s.sessions[client][sub],
		Path: at(s.config.Subs[sub] + [...]string{"", "/x", "/x/y", "/z"}[g.Intn(4)]),
		Excl: g.Intn(2) == 0, Wait: g.Intn(2) == 0,
	}
	if c.Session == 0 {
		c.Kind = table.Open
	}
	return c.Text()
}

// pass lets time pass, as fast as it may on each clock, or as anything.
func (s *sim) pass() {
	var by []int
	stride := s.g.Intn(3)
	for range s.config.Grid.Len() {
		switch {
		case !s.even:
			by = append(by, s.g.Intn(40))
		case stride == 0:
			by = append(by, 1)
		case s.g.Intn(2) == 0:
			by = append(by, stride*s.config.Rate.P)
		default:
			by = append(by, stride*s.config.Rate.Q)
		}
	}
	s.Pass(by...)
}

// step lets anything happen.
func (s *sim) step() {
	g := s.g
	i, other, sub := g.Intn(s.config.Grid.Len()), g.Intn(s.config.Grid.Len()), g.Intn(len(s.config.Subs))
	k := g.Intn(s.Net().Len() + 1)
	switch x := g.Intn(100); {
	case x < 40:
		s.Deliver(k)
	case x < 50:
		s.Deliver(0)
	case x < 54:
		s.Net().Drop(k)
	case x < 58:
		s.Net().Again(k)
	case x < 62:
		s.Net().Last(k)
	case x < 64:
		s.Net().Cut(i, other, g.Intn(3) == 0)
	case x < 72:
		s.pass()
	case x < 78:
		s.Round()
	case x < 92:
		if s.most > 0 {
			s.most--
			s.Call(i, sub, s.command(sub))
		}
	case x < 95:
		s.Steal(i, sub)
	case x < 97:
		s.Crash(i, g.Int(), g.Int(), g.Int(), g.Int())
	case x < 99:
		s.start(i)
	default:
		s.Fail(i, g.Intn(12))
	}
}

// start starts a node if it is down; only a failure of its disk prevents that.
func (s *sim) start(i int) {
	if s.Node(i) != nil {
		return
	}
	if err := s.Start(i); err != nil {
		is(s.t, "Start", fault.Code(err), api.ErrIO)
		return
	}
	s.started++
	for sub := range s.config.Subs {
		if s.Node(i).Done(sub) > 0 {
			s.images++
		}
	}
}

// P26.1 to P26.4: what must hold after any calls.
func TestAnyCalls(t *testing.T) {
	g := rand.New(rand.NewSource(1))
	var did, answers, fit, moves, images, started int
	for range 300 {
		s := newSim(t, g, anyConfig(g))
		for range 300 + g.Intn(500) {
			s.step()
			s.look()
		}
		did, answers, fit = did+s.did, answers+s.answers, fit+s.fit
		moves, images, started = moves+s.moves, images+s.images, started+s.started
	}
	if did < 3000 || answers < 1000 || fit < 8000 || moves < 150 || images < 200 || started < 1000 {
		t.Errorf("only %d commands, %d answers, %d times a holder, %d moves, %d images, %d starts",
			did, answers, fit, moves, images, started)
	}
}

// contents returns what a disk stores.
func contents(t *testing.T, d *disk.Disk, witness bool, subs int) string {
	t.Helper()
	s, e := keep.Open(d.Clone(), witness, subs)
	is(t, "keep.Open", e, api.OK)
	var w code.Writer
	for sub := range subs {
		s.Acceptor(sub).Put(&w)
		_, text := s.Image(sub)
		w.S(text)
	}
	return w.Text()
}

// P26.5: after a byte was altered, a node stays down with ErrCorrupt, or comes up
// with everything that it stored; and P26.1 to P26.3 hold for the nodes that are
// up.
func TestAnyAlteredByte(t *testing.T) {
	g := rand.New(rand.NewSource(2))
	corrupt, up := 0, 0
	for range 150 {
		s := newSim(t, g, anyConfig(g))
		for range 10 {
			for range 60 {
				s.step()
				s.look()
			}
			i := g.Intn(s.config.Grid.Len())
			d := s.disks[i]
			f := g.Intn(disk.Files)
			text, _ := d.Read(f)
			if s.Crash(i) != api.OK || len(text) == 0 {
				continue
			}
			witness := s.config.Grid.Witnesses()&grid.Set(i) != 0
			before := d.Clone()
			was := contents(t, d, witness, len(s.config.Subs))
			is(t, "Spoil", s.Spoil(i, f, g.Intn(len(text)), byte(1+g.Intn(255))), true)
			s.Fail(i, -1)
			if err := s.Start(i); err != nil {
				is(t, "Start", fault.Text(err), "cluster: node: code 7")
				is(t, "Node", s.Node(i), nil)
				corrupt++
				s.disks[i] = before // so that it can go on
				continue
			}
			up++
			is(t, "contents", contents(t, d, witness, len(s.config.Subs)), was)
			s.look()
		}
	}
	if corrupt < 100 || up < 200 {
		t.Errorf("only %d disks were corrupt, and %d were not", corrupt, up)
	}
}

// bound returns within how many Rounds a node becomes the owner.
func bound(c node.Config) int {
	return 2*c.Patience + 2*lease.Long(c.Rate, c.Term) + 2*c.Policy.Span + 60
}

// take makes a node the owner of a subtree, within that bound.
func (s *sim) take(i, sub int) {
	s.t.Helper()
	for n := 0; !s.Node(i).Ready(sub); n++ {
		if n == bound(s.config) {
			s.t.Fatalf("node %d does not become the owner of %d", i, sub)
		}
		is(s.t, "Steal", s.Steal(i, sub), api.OK)
		s.Round()
		s.look()
	}
}

// P7: whatever happened, after Heal any node that is not a witness becomes the
// owner, its commands are answered, and all nodes execute the same commands.
func TestLive(t *testing.T) {
	g := rand.New(rand.NewSource(3))
	for range 300 {
		s := newSim(t, g, anyConfig(g))
		s.most = 39
		for range 300 + g.Intn(500) {
			s.step()
		}
		s.Heal()
		s.look()
		i := g.Intn(s.config.Grid.Len())
		if s.Node(i).Table(0) == nil {
			continue
		}
		for sub := range s.config.Subs {
			s.take(i, sub)
		}
		rounds(s.Cluster, 70)
		for sub := range s.config.Subs {
			s.take(i, sub)
			s.look()
			before := s.answers
			for range 3 {
				is(t, "Call", s.Call(i, sub, s.command(sub)), api.OK)
				rounds(s.Cluster, 2)
				s.look()
			}
			is(t, "answers", s.answers, before+3)
		}
		rounds(s.Cluster, 100)
		s.look()
		for sub := range s.config.Subs {
			is(t, "Ready", s.Node(i).Ready(sub), true)
			for other := range s.config.Grid.Len() {
				n := s.Node(other)
				if x := n.Table(sub); x != nil {
					is(t, "Done", n.Done(sub), s.Node(i).Done(sub))
					is(t, "Owner", n.Owner(sub), i)
				}
			}
		}
	}
}

// The configurations of these tests are valid.
func TestGrids(t *testing.T) {
	for _, x := range grids() {
		is(t, "Check", x.Check(), api.OK)
	}
}
