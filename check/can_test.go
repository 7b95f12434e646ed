package check

import (
	"math/rand"
	"slices"
	"testing"

	"chatelaine/api"
	"chatelaine/client"
	"chatelaine/path"
	"chatelaine/table"
)

// can fails unless this is the result of Can.
func can(t *testing.T, want bool, ops []client.Op, expires ...string) {
	t.Helper()
	if got, e := Can(at("/a"), 0, ops, expires); got != want || e != api.OK {
		t.Fatalf("Can: %v and %d, not %v", got, e, want)
	}
}

// Example 1: two Opens, one after the other or at the same time.
func TestExample(t *testing.T) {
	can(t, true, []client.Op{open(1, 1, 1, 2, 1), open(2, 1, 3, 4, 2)})
	can(t, false, []client.Op{open(1, 1, 1, 2, 2), open(2, 1, 3, 4, 1)})
	can(t, true, []client.Op{open(1, 1, 1, 3, 1), open(2, 1, 2, 4, 2)})
	can(t, true, []client.Op{open(1, 1, 1, 3, 2), open(2, 1, 2, 4, 1)})
}

// P28.2: a call that was answered before the Start of another one comes before
// it, also if that one was not answered.
func TestTimes(t *testing.T) {
	for end, want := range map[int]bool{0: false, 4: false, 5: true, 6: true} {
		can(t, want, []client.Op{open(1, 1, 0, end, 2), open(2, 1, 5, 9, 1)})
		can(t, want, []client.Op{open(1, 1, 0, end, 2), unanswered(open(2, 1, 5, 0, 0))})
	}
	// A call may be answered before its own Start, but no two before each other.
	can(t, true, []client.Op{open(1, 1, 7, 5, 1)})
	can(t, false, []client.Op{open(1, 1, 7, 5, 1), open(2, 1, 7, 5, 2)})
	// A call that was not answered may come at any time after those.
	can(t, true, []client.Op{unanswered(open(3, 1, 1, 0, 0)), open(1, 1, 2, 3, 1), open(2, 1, 4, 5, 3)})
	can(t, true, []client.Op{unanswered(open(3, 1, 1, 0, 0)), open(1, 1, 2, 3, 2), open(2, 1, 4, 5, 3)})
	can(t, false, []client.Op{unanswered(open(3, 1, 4, 0, 0)), open(1, 1, 2, 3, 2), open(2, 1, 4, 5, 3)})
}

// P28.2: all calls that were answered are part of the order, and some of the
// others.
func TestSome(t *testing.T) {
	can(t, true, nil)
	can(t, true, []client.Op{unanswered(open(1, 1, 1, 0, 0)), unanswered(open(2, 1, 2, 0, 0))})
	for n, want := range []bool{false, true, true, true, false} {
		ops := []client.Op{unanswered(open(1, 1, 1, 0, 0)), open(3, 1, 3, 4, n), unanswered(open(2, 1, 2, 0, 0))}
		can(t, want, ops)
	}
	// Each of them comes once.
	can(t, false, []client.Op{unanswered(open(1, 1, 1, 0, 0)), unanswered(open(1, 1, 1, 0, 0)), open(3, 1, 3, 4, 3)})
	keep := client.Op{Client: 1, Seq: 2, Text: keeps(1, 2, 1), Start: 3, End: 4, Reply: table.Reply{Count: 2}}
	can(t, false, []client.Op{open(1, 1, 1, 2, 1), keep})
	keep.Reply.Count = 1
	can(t, true, []client.Op{open(1, 1, 1, 2, 1), keep})
	// Nothing else is compared.
	keep.Client, keep.Seq, keep.Sub, keep.Node = -7, 70, 3, 9
	can(t, true, []client.Op{open(1, 1, 1, 2, 1), keep})
	keep.Text = "x"
	can(t, false, []client.Op{open(1, 1, 1, 2, 1), keep})
	keep.Reply = table.New(path.Path{}, 0).Apply("x")
	can(t, true, []client.Op{open(1, 1, 1, 2, 1), keep})
}

// P28.2: an Expire may come at any time, at most once.
func TestExpires(t *testing.T) {
	gone := client.Op{Client: 1, Seq: 2, Text: keeps(1, 2, 1), Start: 3, End: 4, Reply: table.Reply{Err: api.ErrSession}}
	ops := []client.Op{open(1, 1, 1, 2, 1), gone}
	can(t, false, ops)
	can(t, true, ops, expires(1, 0))
	can(t, false, ops, expires(1, 1))
	can(t, false, ops, expires(2, 0))
	can(t, true, ops, expires(2, 0), expires(1, 1), expires(1, 0))
	ops[1].Reply = table.Reply{Count: 1}
	can(t, true, ops, expires(1, 0))
	// Nine sessions, of which at most eight are there at a time.
	ops = []client.Op{gone}
	ops[0].Start = 2
	ops = append(ops, open(1, 1, 0, 1, 1))
	can(t, true, ops, expires(1, 0))
	can(t, true, ops, "", "x", expires(1, 0))
	can(t, false, ops, "", "x")
}

// P28.2: the table is a new one, with that root and last token.
func TestNewTable(t *testing.T) {
	get := table.Cmd{Kind: table.Acquire, Client: 1, Seq: 2, Session: 1, Path: at("/a/x")}
	ops := []client.Op{open(1, 1, 1, 2, 1), {Text: get.Text(), Start: 3, End: 4, Reply: table.Reply{Token: 8}}}
	for root, want := range map[string]bool{"/": true, "/a": true, "/a/x": true, "/a/x/y": false, "/b": false} {
		got, e := Can(at(root), 7, ops, nil)
		is(t, "Can", got == want && e == api.OK, true)
	}
	for last, want := range map[uint64]bool{6: false, 7: true, 8: false} {
		got, _ := Can(at("/a"), last, ops, nil)
		is(t, "Can", got, want)
	}
}

// P28.2: at most MaxOps calls and Expires.
func TestMaxOps(t *testing.T) {
	is(t, "MaxOps", MaxOps, 8)
	for calls := range 12 {
		for others := range 12 {
			var ops []client.Op
			for i := range calls {
				ops = append(ops, open(i+1, 1, 2*i, 2*i+1, i+1))
			}
			got, e := Can(at("/a"), 0, ops, slices.Repeat([]string{expires(9, 9)}, others))
			want := api.OK
			if calls+others > 8 {
				want = api.ErrBig
			}
			is(t, "Can", e, want)
			is(t, "Can", got, want == api.OK)
		}
	}
}

// P28.2: eight calls at the same time, with any answers that are possible, or
// with one that is not.
func TestManyOrders(t *testing.T) {
	g := rand.New(rand.NewSource(2))
	for range 20 {
		var ops []client.Op
		for i, n := range g.Perm(MaxOps) {
			ops = append(ops, open(i+1, 1, 1, 100, n+1))
		}
		can(t, true, ops)
		ops[g.Intn(MaxOps)].Reply.Session = 9
		can(t, false, ops)
	}
	var ops []client.Op
	for i := range MaxOps - 1 {
		ops = append(ops, unanswered(open(i+1, 1, 1, 0, 0)))
	}
	can(t, true, append(ops, open(9, 1, 1, 100, 8)))
	can(t, false, append(ops, open(9, 1, 1, 100, 9)))
}

// orders reports whether there is such an order, by trying all of them.
func orders(h history, expires []string, chosen []int) bool {
	all := slices.Clone(h.ops)
	for _, text := range expires {
		all = append(all, client.Op{Text: text, End: -1})
	}
	if isOrder(all, chosen, len(h.ops)) {
		return true
	}
	for i := range all {
		if !slices.Contains(chosen, i) && orders(h, expires, append(slices.Clone(chosen), i)) {
			return true
		}
	}
	return false
}

// isOrder reports whether these are an order as the chapter says; from calls on,
// they are Expires.
func isOrder(all []client.Op, chosen []int, calls int) bool {
	x := table.New(at("/a"), 0)
	for n, i := range chosen {
		reply := x.Apply(all[i].Text)
		if i >= calls {
			continue
		}
		if all[i].End >= 0 && !table.Same(all[i].Reply, reply) {
			return false
		}
		for _, j := range chosen[:n] {
			if j < calls && all[i].End >= 0 && all[i].End < all[j].Start {
				return false
			}
		}
	}
	for i := range calls {
		if all[i].End >= 0 && !slices.Contains(chosen, i) {
			return false
		}
	}
	return true
}

// confuse changes the times of some calls, and exchanges their replies.
func (h *history) confuse(g *rand.Rand) {
	for range g.Intn(4) * len(h.ops) {
		one, other := &h.ops[g.Intn(len(h.ops))], &h.ops[g.Intn(len(h.ops))]
		switch {
		case g.Intn(4) == 0:
			h.change(g)
		case g.Intn(2) == 0:
			one.Start, one.End = other.Start, other.End
		case one.End >= 0 && other.End >= 0:
			one.Reply, other.Reply = other.Reply, one.Reply
		}
	}
}

// P28.2: Can, as specified, for any calls and Expires.
func TestAnyCan(t *testing.T) {
	g := rand.New(rand.NewSource(3))
	yes, no := 0, 0
	for yes+no < 1500 {
		h := anyHistory(g, 6+g.Intn(10))
		h.confuse(g)
		list := h.expires()
		if g.Intn(3) == 0 {
			list = append(list, expires(1+g.Intn(3), g.Intn(2)))
		}
		if len(list) > 0 && g.Intn(3) == 0 {
			list = list[1:]
		}
		if len(h.ops)+len(list) > 5 {
			continue
		}
		want := orders(h, list, nil)
		can(t, want, h.ops, list...)
		if want {
			yes++
		} else {
			no++
		}
	}
	if yes < 300 || no < 300 {
		t.Errorf("only %d histories are possible, and %d are not", yes, no)
	}
}

// expires returns the Expires of the log.
func (h history) expires() []string {
	var l []string
	for _, text := range h.log {
		if c, e := table.Parse(text); e == api.OK && c.Kind == table.Expire {
			l = append(l, text)
		}
	}
	return l
}

// P28.3: if calls fit a log, Can is true with the Expires of the log.
func TestFitsAndCan(t *testing.T) {
	g := rand.New(rand.NewSource(4))
	fit, with := 0, 0
	for range 20000 {
		h := anyHistory(g, g.Intn(30))
		for range g.Intn(3) {
			h.change(g)
		}
		list := h.expires()
		if _, e := Fits(at("/a"), 0, h.log, h.ops); e != api.OK || len(h.ops)+len(list) > MaxOps {
			continue
		}
		can(t, true, h.ops, list...)
		fit++
		if len(list) > 0 {
			with++
		}
	}
	if fit < 3000 || with < 300 {
		t.Errorf("only %d histories fit, %d with Expires", fit, with)
	}
}

// Rule 5: the arguments are not modified, nor the spare capacity of slices.
func TestMemory(t *testing.T) {
	whole := []client.Op{open(1, 1, 1, 2, 1), open(2, 1, 3, 4, 2), open(3, 1, 5, 6, 3)}
	before := slices.Clone(whole)
	log := []string{opens(1, 1), opens(2, 1), expires(1, 0)}
	can(t, true, whole[:2], log[2:]...)
	fits(t, log[:2:3], whole[:2], -1, api.OK)
	for i := range whole {
		is(t, "the call", whole[i].Text == before[i].Text && whole[i].End == before[i].End && table.Same(whole[i].Reply, before[i].Reply), true)
	}
	is(t, "the log", slices.Equal(log, []string{opens(1, 1), opens(2, 1), expires(1, 0)}), true)
}
