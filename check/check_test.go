package check

import (
	"math"
	"math/rand"
	"slices"
	"testing"

	"chatelaine/api"
	"chatelaine/client"
	"chatelaine/path"
	"chatelaine/table"
)

// is fails unless both are equal.
func is[T comparable](t *testing.T, what string, got, want T) {
	t.Helper()
	if got != want {
		t.Fatalf("%s: %v, not %v", what, got, want)
	}
}

// at returns the path with a text.
func at(s string) path.Path {
	p, err := path.Parse(s)
	if err != nil {
		panic(err)
	}
	return p
}

// opens returns the text of an Open.
func opens(client, seq int) string {
	return table.Cmd{Kind: table.Open, Client: client, Seq: seq}.Text()
}

// keeps returns the text of a Keep.
func keeps(client, seq, session int) string {
	return table.Cmd{Kind: table.Keep, Client: client, Seq: seq, Session: session}.Text()
}

// expires returns the text of an Expire.
func expires(session, count int) string {
	return table.Cmd{Kind: table.Expire, Session: session, Count: count}.Text()
}

// open returns a call of Open with the answer session n.
func open(c, seq, start, end, n int) client.Op {
	return client.Op{Client: c, Seq: seq, Text: opens(c, seq), Start: start, End: end, Reply: table.Reply{Session: n}}
}

// unanswered returns the call without its answer.
func unanswered(op client.Op) client.Op {
	op.End, op.Reply = -1, table.Reply{}
	return op
}

// fits fails unless this is the result of Fits.
func fits(t *testing.T, log []string, ops []client.Op, index int, e api.Errno) {
	t.Helper()
	if i, got := Fits(at("/a"), 0, log, ops); i != index || got != e {
		t.Fatalf("Fits: %d and %d, not %d and %d", i, got, index, e)
	}
}

// P28.1: the commands that count are those of clients whose number is greater
// than all earlier ones.
func TestCounts(t *testing.T) {
	fits(t, nil, nil, -1, api.OK)
	fits(t, []string{"", "x", expires(1, 0), expires(7, 7), ""}, nil, -1, api.OK)
	fits(t, []string{"", opens(1, 1)}, nil, 1, api.ErrInval)
	one, three := open(1, 1, 1, 2, 1), open(1, 3, 5, 6, 2)
	fits(t, []string{opens(1, 1), opens(1, 1), "", opens(1, 3), opens(1, 1), opens(1, 2), opens(1, 3)}, []client.Op{one, three}, -1, api.OK)
	fits(t, []string{opens(1, 1), opens(1, 4), opens(1, 3)}, []client.Op{one}, 1, api.ErrInval)
	fits(t, []string{opens(1, 2), opens(1, 1)}, []client.Op{open(1, 2, 3, 4, 1)}, -1, api.OK)
	fits(t, []string{opens(1, 2), opens(1, 1)}, []client.Op{open(1, 2, 3, 4, 1), one}, 1, api.ErrNone)
	// Each client has its own numbers.
	fits(t, []string{opens(2, 7), opens(1, 1)}, []client.Op{open(1, 1, 3, 4, 2), open(2, 7, 1, 2, 1)}, -1, api.OK)
	// A command counts whatever its reply is.
	op := client.Op{Client: 64, Seq: 1 << 40, Text: keeps(64, 1<<40, 5), Start: 9, End: 10, Reply: table.Reply{Err: api.ErrSession}}
	fits(t, []string{op.Text}, []client.Op{op}, -1, api.OK)
	fits(t, []string{op.Text}, nil, 0, api.ErrInval)
}

// P28.1: ErrInval is reported with the index in the log.
func TestNoCall(t *testing.T) {
	ops := []client.Op{open(2, 1, 1, 2, 1), unanswered(open(1, 2, 3, 4, 2))}
	fits(t, []string{"", opens(2, 1), opens(1, 2)}, ops, -1, api.OK)
	fits(t, []string{"", opens(2, 1), opens(1, 3)}, ops, 2, api.ErrInval)
	fits(t, []string{"", opens(2, 1), opens(3, 1)}, ops, 2, api.ErrInval)
	fits(t, []string{opens(1, 1), opens(2, 1)}, ops, 0, api.ErrInval)
}

// P28.1: ErrForm, if the text or the reply is another one.
func TestOtherText(t *testing.T) {
	log := []string{"", opens(1, 1)}
	other := open(1, 1, 1, 2, 1)
	other.Text = keeps(1, 1, 0)
	fits(t, log, []client.Op{open(2, 1, 3, -1, 0), other}, 1, api.ErrForm)
	fits(t, log, []client.Op{unanswered(other)}, 0, api.ErrForm)
	other.Text = opens(1, 1) + "x"
	fits(t, log, []client.Op{other}, 0, api.ErrForm)

	fits(t, log, []client.Op{open(1, 1, 1, 2, 2)}, 0, api.ErrForm)
	fits(t, log, []client.Op{open(1, 1, 1, 0, 2)}, 0, api.ErrForm)
	fits(t, log, []client.Op{open(1, 1, 1, -1, 2)}, -1, api.OK)
	fits(t, log, []client.Op{open(1, 1, 1, math.MinInt, 2)}, -1, api.OK)
	wrong := open(1, 1, 1, 2, 1)
	wrong.Reply.Lost = true
	fits(t, log, []client.Op{wrong}, 0, api.ErrForm)

	// The other fields do not matter.
	right := open(1, 1, 1, 2, 1)
	right.Sub, right.Node = 3, 7
	fits(t, log, []client.Op{right}, -1, api.OK)
}

// P28.1: the replies are those of a table with that root and last token, after
// the preceding log: also after the commands that do not count.
func TestReplies(t *testing.T) {
	get := table.Cmd{Kind: table.Acquire, Client: 1, Seq: 2, Session: 1, Path: at("/a/x")}
	log := []string{opens(1, 1), opens(2, 1), expires(2, 0), get.Text(), keeps(2, 2, 2), opens(2, 3)}
	ops := []client.Op{
		open(1, 1, 1, 2, 1), open(2, 1, 3, 4, 2),
		{Client: 1, Seq: 2, Text: get.Text(), Start: 5, End: 6, Reply: table.Reply{Token: 8}},
		{Client: 2, Seq: 2, Text: log[4], Start: 7, End: 8, Reply: table.Reply{Err: api.ErrSession}},
		open(2, 3, 9, 10, 3),
	}
	for root, want := range map[string]int{"/": -1, "/a": -1, "/a/x": -1, "/a/x/y": 2, "/b": 2} {
		i, e := Fits(at(root), 7, log, ops)
		is(t, "Fits", i, want)
		is(t, "Fits", e == api.OK, want == -1)
	}
	for last, want := range map[uint64]int{7: -1, 8: 2, 0: 2, math.MaxUint64: 2} {
		i, _ := Fits(at("/a"), last, log, ops)
		is(t, "Fits", i, want)
	}
	ops[2].Reply = table.Reply{Err: api.ErrExhausted}
	i, e := Fits(at("/a"), math.MaxUint64, log, ops)
	is(t, "Fits", i == -1 && e == api.OK, true)
	log[2] = ""
	i, e = Fits(at("/a"), math.MaxUint64, log, ops)
	is(t, "Fits", i == 3 && e == api.ErrForm, true)
}

// P28.1: ErrStale, if the call was answered before an earlier one began.
func TestStale(t *testing.T) {
	log := []string{opens(1, 1), opens(2, 1), opens(3, 1)}
	for end, want := range map[int]api.Errno{8: api.ErrStale, 9: api.ErrStale, 10: api.OK, 11: api.OK, -1: api.OK} {
		ops := []client.Op{open(3, 1, 1, end, 3), open(2, 1, 5, 20, 2), open(1, 1, 10, 21, 1)}
		index := 0
		if want == api.OK {
			index = -1
		}
		fits(t, log, ops, index, want)
		ops[2] = unanswered(ops[2])
		fits(t, log, ops, index, want)
	}
	// It is not stale by its own Start, nor by that of a later one.
	fits(t, log[:2], []client.Op{open(1, 1, 5, 3, 1), open(2, 1, 9, 10, 2)}, -1, api.OK)
	// What does not count does not matter.
	late := unanswered(open(4, 1, 100, 0, 0))
	fits(t, []string{opens(1, 1), expires(9, 0), "", opens(1, 1)}, []client.Op{late, open(1, 1, 5, 6, 1)}, -1, api.OK)
	fits(t, []string{opens(4, 1), opens(1, 1)}, []client.Op{late, open(1, 1, 5, 6, 2)}, 1, api.ErrStale)
}

// P28.1: ErrNone, if the command of an answered call does not count.
func TestNone(t *testing.T) {
	one, two := open(1, 1, 1, 2, 1), open(2, 1, 3, 0, 1)
	fits(t, nil, []client.Op{unanswered(one), unanswered(two)}, -1, api.OK)
	fits(t, nil, []client.Op{unanswered(one), two}, 1, api.ErrNone)
	fits(t, nil, []client.Op{one, two}, 0, api.ErrNone)
	fits(t, []string{opens(1, 1)}, []client.Op{one, two}, 1, api.ErrNone)
	fits(t, []string{opens(1, 1)}, []client.Op{one, unanswered(two)}, -1, api.OK)
	// A command has one call.
	fits(t, []string{opens(1, 1)}, []client.Op{one, one}, 1, api.ErrNone)
	fits(t, []string{opens(1, 1)}, []client.Op{one, unanswered(one)}, -1, api.OK)
}

// P28.1: the order of the errors.
func TestOrderOfErrors(t *testing.T) {
	log := []string{opens(1, 1), opens(2, 1), opens(3, 1), opens(4, 1)}
	early := open(2, 1, 1, 2, 9) // another reply, and before client 1
	ops := []client.Op{open(5, 1, 1, 2, 1), early, open(1, 1, 4, 5, 1)}
	fits(t, log, ops, 1, api.ErrForm)
	ops[1].Reply.Session = 2
	fits(t, log, ops, 1, api.ErrStale)
	ops[1].End = 4
	fits(t, log, ops, 2, api.ErrInval)
	ops = append(ops, open(3, 1, 7, 8, 3), open(4, 1, 9, -1, 0))
	fits(t, log, ops, 0, api.ErrNone)
	ops[0].End = -1
	fits(t, log, ops, -1, api.OK)
}

// history is calls, and the log that their commands give.
type history struct {
	log []string
	ops []client.Op
}

// anyHistory lets a few clients call anything; their commands are executed at any
// time while they are open, later, never, or several times.
func anyHistory(g *rand.Rand, steps int) history {
	const clients = 3
	var h history
	x := table.New(at("/a"), 0)
	events := 0
	var late []string
	current := [clients + 1]int{} // the index of the open call, plus 1
	seqs := [clients + 1]int{}
	apply := func(text string) table.Reply {
		h.log = append(h.log, text)
		return x.Apply(text)
	}
	for range steps {
		c := 1 + g.Intn(clients)
		if i := current[c] - 1; i >= 0 {
			op := &h.ops[i]
			switch g.Intn(4) {
			case 0:
				current[c] = 0 // It is abandoned, and may come later.
				late = append(late, op.Text)
			case 1:
				apply(op.Text)
			default:
				events++
				op.End, op.Reply = events, apply(op.Text)
				current[c] = 0
			}
			continue
		}
		switch n := g.Intn(8); {
		case n == 0:
			apply("")
		case n == 1 && len(late) > 0:
			apply(late[g.Intn(len(late))])
		case n == 2 && len(x.Sessions()) > 0:
			l := x.Sessions()
			apply(expires(l[g.Intn(len(l))], 0))
		default:
			seqs[c]++
			events++
			cmd := table.Cmd{Kind: 1 + g.Intn(7), Client: c, Seq: seqs[c], Session: 1 + g.Intn(3), Path: at([]string{"/a", "/a/x"}[g.Intn(2)]), Excl: g.Intn(2) == 0, Wait: g.Intn(2) == 0}
			if g.Intn(3) == 0 {
				cmd.Kind = table.Open
			}
			h.ops = append(h.ops, client.Op{Client: c, Seq: seqs[c], Text: cmd.Text(), Start: events, End: -1})
			current[c] = len(h.ops)
		}
	}
	return h
}

// change changes anything about a history.
func (h *history) change(g *rand.Rand) {
	if len(h.ops) == 0 {
		return
	}
	op := &h.ops[g.Intn(len(h.ops))]
	switch g.Intn(8) {
	case 0:
		op.Reply.Session++
	case 1:
		op.End = max(-1, op.End-g.Intn(6))
	case 2:
		op.Start += g.Intn(6)
	case 3:
		op.Start -= g.Intn(6)
	case 4:
		op.Client, op.Text = 1+g.Intn(4), opens(1+g.Intn(4), op.Seq)
	case 5:
		if len(h.log) > 1 {
			i, j := g.Intn(len(h.log)), g.Intn(len(h.log))
			h.log[i], h.log[j] = h.log[j], h.log[i]
		}
	case 6:
		h.ops = append(h.ops, *op)
	default:
		h.log = append(h.log, opens(1+g.Intn(4), 1+g.Intn(4)))
	}
}

// plain compares calls with a log as the chapter says, each slot on its own.
func plain(h history) (int, api.Errno) {
	counts := func(slot int) (table.Cmd, bool) {
		c, e := table.Parse(h.log[slot])
		if e != api.OK || c.Kind == table.Expire {
			return c, false
		}
		for _, text := range h.log[:slot] {
			if old, e := table.Parse(text); e == api.OK && old.Client == c.Client && old.Seq >= c.Seq {
				return c, false
			}
		}
		return c, true
	}
	call := func(c table.Cmd) int {
		return slices.IndexFunc(h.ops, func(op client.Op) bool { return op.Client == c.Client && op.Seq == c.Seq })
	}
	var earlier []int
	for slot, text := range h.log {
		c, is := counts(slot)
		if !is {
			continue
		}
		i := call(c)
		if i < 0 {
			return slot, api.ErrInval
		}
		op := h.ops[i]
		x := table.New(at("/a"), 0)
		for _, s := range h.log[:slot] {
			x.Apply(s)
		}
		if reply := x.Apply(text); op.Text != text || op.End >= 0 && !table.Same(op.Reply, reply) {
			return i, api.ErrForm
		}
		for _, j := range earlier {
			if op.End >= 0 && op.End < h.ops[j].Start {
				return i, api.ErrStale
			}
		}
		earlier = append(earlier, i)
	}
	for i, op := range h.ops {
		if op.End >= 0 && !slices.Contains(earlier, i) {
			return i, api.ErrNone
		}
	}
	return -1, api.OK
}

// P28.1: Fits, as specified, for any calls and any log.
func TestAnyFits(t *testing.T) {
	g := rand.New(rand.NewSource(1))
	var results [api.ErrLate + 1]int
	for n := range 6000 {
		h := anyHistory(g, g.Intn(40))
		if n%4 > 0 {
			for range 1 + g.Intn(2) {
				h.change(g)
			}
		}
		index, e := plain(h)
		if n%4 == 0 {
			is(t, "the history", e, api.OK)
		}
		fits(t, h.log, h.ops, index, e)
		results[e]++
	}
	for _, e := range []api.Errno{api.OK, api.ErrInval, api.ErrForm, api.ErrStale, api.ErrNone} {
		if results[e] < 150 {
			t.Errorf("only %d times code %d", results[e], e)
		}
	}
}

// Rule 1: all arguments are accepted.
func TestAnyArguments(t *testing.T) {
	numbers := []int{math.MinInt, -1, 0, 1, math.MaxInt}
	for _, c := range numbers {
		for _, seq := range numbers {
			for _, start := range numbers {
				for _, end := range numbers {
					reply := table.Reply{Err: api.Errno(c), Session: seq, Place: start, Count: end}
					op := client.Op{Client: c, Sub: c, Seq: seq, Node: end, Text: "\xff\x00", Start: start, End: end, Reply: reply}
					want := api.OK
					if end >= 0 {
						want = api.ErrNone
					}
					_, e := Fits(path.Path{}, math.MaxUint64, []string{"\xff", ""}, []client.Op{op})
					is(t, "Fits", e, want)
					can, e := Can(path.Path{}, math.MaxUint64, []client.Op{op}, []string{"\xff", ""})
					is(t, "Can", can == (end < 0) && e == api.OK, true)
				}
			}
		}
	}
}
