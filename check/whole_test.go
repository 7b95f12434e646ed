package check

import (
	"math/rand"
	"testing"

	"chatelaine/api"
	"chatelaine/client"
	"chatelaine/cluster"
	"chatelaine/drift"
	"chatelaine/grid"
	"chatelaine/node"
	"chatelaine/steal"
	"chatelaine/table"
)

// whole is a cluster with its clients, and what its nodes have executed.
type whole struct {
	*cluster.Cluster
	clients *client.Clients
	g       *rand.Rand
	texts   [2]map[int]string
}

func newWhole(t *testing.T, g *rand.Rand) *whole {
	t.Helper()
	two := grid.Kind{Zones: 1, Nodes: 2}
	c, err := cluster.New(node.Config{
		Grid: grid.Config{Regions: 1, Per: 3, First: two, Second: two}, Subs: []string{"/a", "/b"},
		Term: 5, Every: 2, Rate: drift.Rate{P: 1, Q: 1}, Lease: 12,
		Policy: steal.Policy{Least: 3, Span: 20}, Patience: 20, Fold: 4, Token: 5,
	}, 1<<20)
	if err != nil {
		t.Fatal(err)
	}
	return &whole{c, client.New(c), g, [2]map[int]string{{}, {}}}
}

// step lets clients call, time pass, and messages and nodes fail.
func (w *whole) step() {
	g := w.g
	i, n, k := g.Intn(3), 1+g.Intn(3), g.Intn(w.Net().Len()+1)
	switch x := g.Intn(50); {
	case x < 12:
		sub, kind := g.Intn(2), 1+g.Intn(7)
		if g.Intn(3) == 0 {
			kind = table.Open
		}
		p := at([]string{"/a", "/b"}[sub] + []string{"", "/x"}[g.Intn(2)])
		w.clients.Begin(n, i, sub, kind, p, g.Intn(2) == 0, g.Intn(2) == 0)
	case x < 18:
		w.clients.Retry(n, i)
	case x < 19:
		w.clients.Leave(n)
	case x < 30:
		w.Deliver(k)
	case x < 40:
		w.Round()
	case x < 42:
		w.Steal(i, g.Intn(2))
	case x < 44:
		w.Net().Again(k)
	case x < 45:
		w.Net().Drop(k)
	case x < 46:
		w.Crash(i, g.Int(), g.Int())
	default:
		// A node that is up is not started again.
		_ = w.Start(i)
	}
	w.clients.Collect()
	for _, d := range w.Dids() {
		w.texts[d.Sub][d.Slot] = d.Text
	}
}

// history returns the log of a subtree, and its calls.
func (w *whole) history(sub int) history {
	var h history
	for slot := range len(w.texts[sub]) {
		h.log = append(h.log, w.texts[sub][slot+1])
	}
	for _, op := range w.clients.History() {
		if op.Sub == sub {
			h.ops = append(h.ops, op)
		}
	}
	return h
}

// P27.3, P28.1, P28.3: what clients are answered fits the log, whatever happens,
// and other answers do not.
func TestWhole(t *testing.T) {
	g := rand.New(rand.NewSource(5))
	answers, small := 0, 0
	for range 300 {
		w := newWhole(t, g)
		for range g.Intn(200) {
			w.step()
		}
		for sub, root := range w.Config().Subs {
			h := w.history(sub)
			if i, e := Fits(at(root), 5, h.log, h.ops); i != -1 || e != api.OK {
				t.Fatalf("call %d of %v: code %d", i, h, e)
			}
			if list := h.expires(); len(h.ops)+len(list) <= MaxOps {
				possible, e := Can(at(root), 5, h.ops, list)
				is(t, "Can", possible && e == api.OK, true)
				small++
			}
			for i := range h.ops {
				if h.ops[i].End < 0 {
					continue
				}
				answers++
				reply := &h.ops[i].Reply
				reply.Count++
				at, e := Fits(at(root), 5, h.log, h.ops)
				is(t, "Fits", at == i && e == api.ErrForm, true)
				reply.Count--
			}
		}
	}
	if answers < 800 || small < 200 {
		t.Errorf("only %d answers, %d small histories", answers, small)
	}
}
