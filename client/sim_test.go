package client

import (
	"math/rand"
	"testing"

	"chatelaine/api"
	"chatelaine/cluster"
	"chatelaine/drift"
	"chatelaine/fault"
	"chatelaine/grid"
	"chatelaine/node"
	"chatelaine/steal"
	"chatelaine/table"
)

// kind returns the kind of quorums of so many nodes in so many regions.
func kind(zones, nodes int) grid.Kind { return grid.Kind{Zones: zones, Nodes: nodes} }

// grids returns configurations with and without witnesses.
func grids() []grid.Config {
	return []grid.Config{
		{Regions: 1, Per: 1, First: kind(1, 1), Second: kind(1, 1)},
		{Regions: 1, Per: 3, First: kind(1, 2), Second: kind(1, 2)},
		{Regions: 3, Per: 1, First: kind(3, 1), Second: kind(1, 1)},
		{Regions: 3, Per: 1, Witness: 4, First: kind(3, 1), Second: kind(2, 1)},
		{Regions: 3, Per: 3, First: kind(2, 2), Second: kind(2, 2)},
		{Regions: 2, Per: 2, First: kind(2, 1), Second: kind(1, 2)},
	}
}

// anyConfig returns any configuration with durations that are not too long.
func anyConfig(g *rand.Rand) node.Config {
	all := grids()
	c := node.Config{
		Grid: all[g.Intn(len(all))], Subs: []string{"/a", "/b"}[:1+g.Intn(2)],
		Term: 1 + g.Intn(20), Rate: drift.Rate{P: 10 + g.Intn(6), Q: 10}, Lease: 1 + g.Intn(60),
		Policy: steal.Policy{Least: 1 + g.Intn(5), Span: 1 + g.Intn(30)}, Patience: 1 + g.Intn(40), Fold: 1 + g.Intn(32),
	}
	c.Every = 1 + g.Intn(c.Term)
	return c
}

// few is how many of the clients of a sim call anything.
const few = 4

// known is what is known of a call beside its Op.
type known struct {
	kind, began int
	left        bool
}

// sim is a cluster and its clients to which anything happens.
type sim struct {
	*world
	g      *rand.Rand
	config node.Config
	even   bool             // whether the clocks fit
	texts  []map[int]string // what was executed, for each subtree
	tables []*table.Table   // the results
	done   []int            // how many commands these have executed
	calls  []known

	held, gone, ended, left, twice int
}

func newSim(t *testing.T, g *rand.Rand, c node.Config) *sim {
	x, err := cluster.New(c, 1<<22)
	if err != nil {
		t.Fatal(err)
	}
	s := &sim{world: &world{New(x), t, x}, g: g, config: c, even: g.Intn(4) > 0}
	for _, root := range c.Subs {
		s.texts = append(s.texts, map[int]string{})
		s.tables = append(s.tables, table.New(at(root), c.Token))
		s.done = append(s.done, 0)
	}
	return s
}

// execute executes what any node has executed.
func (s *sim) execute() {
	for _, d := range s.c.Dids() {
		s.texts[d.Sub][d.Slot] = d.Text
	}
	for sub, texts := range s.texts {
		for text, is := texts[s.done[sub]+1]; is; text, is = texts[s.done[sub]+1] {
			before := len(s.tables[sub].Sessions())
			s.tables[sub].Apply(text)
			s.done[sub]++
			if c, e := table.Parse(text); e == api.OK && c.Kind == table.Expire {
				s.gone += before - len(s.tables[sub].Sessions())
			}
		}
		is(s.t, "the commands without a gap", s.done[sub], len(texts))
	}
}

// look checks what must hold at any time.
func (s *sim) look() {
	s.t.Helper()
	s.execute()
	s.compare()
	if !s.c.Fits() {
		return
	}
	for client := 1; client <= few; client++ {
		for sub := range s.config.Subs {
			if !s.Holds(client, sub) {
				continue
			}
			s.held++
			n := s.Session(client, sub)
			if owner, _, is := s.tables[sub].Session(n); !is || owner != client {
				s.t.Fatalf("client %d holds session %d of %d", client, n, sub)
			}
		}
	}
}

// compare compares what the clients know with their calls.
func (s *sim) compare() {
	s.t.Helper()
	ops := s.History()
	is(s.t, "History", len(ops), len(s.calls))
	s.count(ops)
	for client := 1; client <= few; client++ {
		open, seq := false, 0
		var own [api.MaxSubs]session
		for i, op := range ops {
			if op.Client != client {
				continue
			}
			seq++
			is(s.t, "Seq", op.Seq, seq)
			open = op.End < 0 && !s.calls[i].left
			x, ok := &own[op.Sub], op.End >= 0 && op.Reply.Err == api.OK
			switch s.calls[i].kind {
			case table.Close:
				*x = session{}
			case table.Open:
				if ok {
					*x = session{op.Reply.Session, op.Node, s.calls[i].began + s.config.Rate.Shorter(s.config.Lease)}
				}
			case table.Keep:
				if ok {
					x.node, x.until = op.Node, s.calls[i].began+s.config.Rate.Shorter(s.config.Lease)
				}
			}
		}
		is(s.t, "Open", s.Open(client), open)
		for sub, x := range own {
			is(s.t, "Session", s.Session(client, sub), x.number)
			is(s.t, "Holds", s.Holds(client, sub), x.number > 0 && s.c.Now(x.node) < x.until)
		}
	}
}

// count checks that each beginning and each end of a call is an event of its own,
// and that an abandoned call does not end.
func (s *sim) count(ops []Op) {
	s.t.Helper()
	events := map[int]int{}
	for i, op := range ops {
		events[op.Start]++
		if op.End >= 0 {
			events[op.End]++
			is(s.t, "left", s.calls[i].left, false)
		} else {
			is(s.t, "End", op.End, -1)
			is(s.t, "Reply", table.Same(op.Reply, table.Reply{}), true)
		}
	}
	for i := range len(events) {
		is(s.t, "the event", events[i+1], 1)
	}
}

// exactlyOnce checks that each answer is the result of its command, which was
// executed once, and that no command was executed twice.
func (s *sim) exactlyOnce() {
	s.t.Helper()
	replies := map[string]table.Reply{}
	for sub, root := range s.config.Subs {
		x := table.New(at(root), s.config.Token)
		for slot := 1; slot <= s.done[sub]; slot++ {
			text := s.texts[sub][slot]
			c, e := table.Parse(text)
			if e != api.OK || c.Kind == table.Expire {
				x.Apply(text)
				continue
			}
			last, _ := x.Told(c.Client)
			reply := x.Apply(text)
			if c.Seq > last {
				replies[text] = reply
				continue
			}
			s.twice++
			if old, is := replies[text]; is && c.Seq == last && !table.Same(old, reply) {
				s.t.Fatalf("%v has two results", c)
			}
		}
	}
	for _, op := range s.History() {
		reply, is := replies[op.Text]
		if op.End >= 0 {
			s.ended++
			if !is || !table.Same(op.Reply, reply) {
				s.t.Fatalf("the answer of %v is not its result %v", op, reply)
			}
		}
		delete(replies, op.Text)
	}
	is(s.t, "commands without a call", len(replies), 0)
}

// begins lets a client begin any call.
func (s *sim) begins() {
	g := s.g
	client, node, sub, kind := 1+g.Intn(few), g.Intn(s.config.Grid.Len()), g.Intn(len(s.config.Subs)), 1+g.Intn(7)
	if s.Session(client, sub) == 0 && g.Intn(4) > 0 {
		kind = table.Open
	} else if g.Intn(3) == 0 {
		kind = table.Keep
	}
	p := at(s.config.Subs[sub] + [...]string{"", "/x", "/x/y", "/z"}[g.Intn(4)])
	open, now := s.Open(client), s.c.Now(node)
	e := s.Begin(client, node, sub, kind, p, g.Intn(2) == 0, g.Intn(2) == 0)
	if open {
		is(s.t, "Begin", e, api.ErrBusy)
		return
	}
	is(s.t, "Begin", e, api.OK)
	s.calls = append(s.calls, known{kind: kind, began: now})
}

// leaves lets a client abandon its call.
func (s *sim) leaves(client int) {
	open := s.Open(client)
	if e := s.Leave(client); !open {
		is(s.t, "Leave", e, api.ErrNone)
		return
	}
	ops := s.History()
	for i := len(ops) - 1; ; i-- {
		if ops[i].Client == client {
			s.calls[i].left = true
			s.left++
			return
		}
	}
}

// pass lets time pass, as fast as it may on each clock, or as anything.
func (s *sim) pass() {
	var by []int
	stride := s.g.Intn(3)
	for range s.config.Grid.Len() {
		switch {
		case !s.even:
			by = append(by, s.g.Intn(40))
		case s.g.Intn(2) == 0:
			by = append(by, stride*s.config.Rate.P)
		default:
			by = append(by, stride*s.config.Rate.Q)
		}
	}
	s.c.Pass(by...)
}

// step lets anything happen.
func (s *sim) step() {
	g := s.g
	i, other, sub := g.Intn(s.config.Grid.Len()), g.Intn(s.config.Grid.Len()), g.Intn(len(s.config.Subs))
	k := g.Intn(s.c.Net().Len() + 1)
	switch x := g.Intn(100); {
	case x < 30:
		s.c.Deliver(k)
	case x < 40:
		s.c.Deliver(0)
	case x < 42:
		s.c.Net().Drop(k)
	case x < 45:
		s.c.Net().Again(k)
	case x < 47:
		s.c.Net().Last(k)
	case x < 48:
		s.c.Net().Cut(i, other, g.Intn(3) == 0)
	case x < 51:
		s.pass()
	case x < 62:
		s.c.Round()
	case x < 76:
		s.begins()
	case x < 82:
		s.Retry(1+g.Intn(few), i)
	case x < 83:
		s.leaves(1 + g.Intn(few))
	case x < 92:
		s.Collect()
	case x < 96:
		s.c.Steal(i, sub)
	case x < 97:
		s.c.Crash(i, g.Int(), g.Int(), g.Int(), g.Int())
	case x < 99:
		s.start(i)
	default:
		s.c.Fail(i, g.Intn(12))
	}
}

// start starts a node if it is down; only a failure of its disk prevents that.
func (s *sim) start(i int) {
	if s.c.Node(i) != nil {
		return
	}
	if err := s.c.Start(i); err != nil {
		is(s.t, "Start", fault.Code(err), api.ErrIO)
	}
}

// P27.1 to P27.3: what must hold after any calls.
func TestAnyCalls(t *testing.T) {
	g := rand.New(rand.NewSource(1))
	var held, gone, ended, left, twice int
	for range 300 {
		s := newSim(t, g, anyConfig(g))
		for range 300 + g.Intn(500) {
			s.step()
			s.look()
		}
		s.exactlyOnce()
		held, gone, ended, left, twice = held+s.held, gone+s.gone, ended+s.ended, left+s.left, twice+s.twice
	}
	if held < 8000 || gone < 200 || ended < 1000 || left < 500 || twice < 200 {
		t.Errorf("only %d times a holder, %d sessions that ended, %d calls answered, %d left, %d commands twice",
			held, gone, ended, left, twice)
	}
}

// The configurations of these tests are valid.
func TestGrids(t *testing.T) {
	for _, x := range grids() {
		is(t, "Check", x.Check(), api.OK)
	}
}
