package votes

import (
	"math"
	"math/bits"
	"math/rand"
	"testing"

	"chatelaine/api"
	"chatelaine/grid"
)

// odd returns numbers that are not nodes of any configuration.
func odd() []int {
	return []int{-1, -2, -9, 12, 13, 16, 31, 32, 33, 64, 1 << 32, 1<<32 + 1, math.MinInt, math.MinInt + 1, math.MaxInt}
}

// three is a configuration whose kinds of quorums differ; node 2 is a witness.
func three() grid.Config {
	return grid.Config{Regions: 3, Per: 3, Witness: grid.Set(2), First: grid.Kind{Zones: 3, Nodes: 2}, Second: grid.Kind{Zones: 2, Nodes: 2}}
}

// after adds these nodes, none of which has answered before.
func after(t *testing.T, v *Votes, l ...int) *Votes {
	t.Helper()
	for _, n := range l {
		if !v.Add(n) {
			t.Fatalf("node %d after %x: false", n, v.Set())
		}
	}
	return v
}

// is fails unless the count has this state.
func is(t *testing.T, v *Votes, set uint32, done bool, least int) {
	t.Helper()
	if v.Set() != set || v.Done() != done || v.Least() != least {
		t.Errorf("%x, %v, %d, not %x, %v, %d", v.Set(), v.Done(), v.Least(), set, done, least)
	}
}

// P9.1, P9.2: the example.
func TestExample(t *testing.T) {
	k := grid.Kind{Zones: 2, Nodes: 2}
	c := grid.Config{Regions: 3, Per: 3, First: k, Second: k}
	for _, v := range []*Votes{First(c), Second(c)} {
		is(t, v, 0, false, 4)
		is(t, after(t, v, 0, 1, 3), 0b1011, false, 1)
	}
}

// P9.1: a node is counted once, witnesses as well, in any order.
func TestAdd(t *testing.T) {
	for _, v := range []*Votes{First(three()), Second(three())} {
		want := uint32(0)
		for _, n := range []int{4, 8, 0, 2, 1, 7, 3, 5, 6} {
			if !v.Add(n) || v.Add(n) || v.Add(n) {
				t.Errorf("node %d is not counted once", n)
			}
			want |= 1 << n
			if v.Set() != want {
				t.Errorf("after %d: %x, not %x", n, v.Set(), want)
			}
		}
		is(t, v, 0b111111111, true, 0)
	}
}

// P9.1: numbers that are not nodes are not counted, whatever was before.
func TestAddOfNoNode(t *testing.T) {
	for _, v := range []*Votes{First(three()), Second(three()), after(t, First(three()), 0, 8), after(t, Second(three()), 1, 3)} {
		set, least := v.Set(), v.Least()
		for _, n := range append(odd(), 9, 10, 11) {
			if v.Add(n) {
				t.Errorf("%d is a node", n)
			}
			is(t, v, set, false, least)
		}
	}
}

// P9.1: First and Second count for their own kinds of quorums.
func TestKinds(t *testing.T) {
	for _, c := range []struct {
		l             []int
		first, second bool
		need, want    int
	}{
		{nil, false, false, 6, 4},
		{[]int{2}, false, false, 5, 3},
		{[]int{0, 1, 2}, false, false, 4, 2},
		{[]int{0, 3, 6}, false, false, 3, 2},
		{[]int{0, 1, 3, 6}, false, false, 2, 1},
		{[]int{3, 4, 7}, false, false, 3, 1},
		{[]int{3, 4, 7, 8}, false, true, 2, 0},
		{[]int{1, 2, 3, 4, 5}, false, true, 2, 0},
		{[]int{0, 1, 2, 3, 4, 5, 6}, false, true, 1, 0},
		{[]int{1, 2, 3, 5, 7, 8}, true, true, 0, 0},
		{[]int{0, 1, 2, 3, 4, 5, 6, 7, 8}, true, true, 0, 0},
	} {
		set := grid.Set(c.l...)
		is(t, after(t, First(three()), c.l...), set, c.first, c.need)
		is(t, after(t, Second(three()), c.l...), set, c.second, c.want)
	}
	swapped := three()
	swapped.First, swapped.Second = swapped.Second, swapped.First
	is(t, First(swapped), 0, false, 4)
	is(t, Second(swapped), 0, false, 6)
}

// P9.1: what the given nodes would add; bits that are not nodes are ignored,
// and the nodes that have answered count in any case.
func TestCould(t *testing.T) {
	for _, c := range []struct {
		l             []int
		alive         uint32
		first, second bool
	}{
		{nil, 0, false, false},
		{nil, 0b111, false, false},
		{nil, 0b011011, false, true},
		{nil, 0b011011011, true, true},
		{nil, math.MaxUint32, true, true},
		{nil, math.MaxUint32 &^ 0b111111111, false, false},
		{[]int{0, 1, 3}, 0, false, false},
		{[]int{0, 1, 3}, 0b001011, false, false},
		{[]int{0, 1, 3}, 0b010000, false, true},
		{[]int{0, 1, 3}, 0b100000, false, true},
		{[]int{0, 1, 3}, 0b001000000, false, false},
		{[]int{0, 1, 3}, 0b011000000, false, true},
		{[]int{0, 1, 3}, 0b101100000, true, true},
		{[]int{0, 1, 3}, 0b111111111 << 9, false, false},
		{[]int{0, 1, 3, 4}, 0, false, true},
		{[]int{0, 1, 3, 4}, 0b111111, false, true},
		{[]int{0, 1, 3, 4}, 0b110000000, true, true},
		{[]int{0, 1, 3, 4, 6, 7}, 0, true, true},
	} {
		set := grid.Set(c.l...)
		first, second := after(t, First(three()), c.l...), after(t, Second(three()), c.l...)
		if first.Could(c.alive) != c.first || second.Could(c.alive) != c.second {
			t.Errorf("%d and %b: %v, %v", c.l, c.alive, first.Could(c.alive), second.Could(c.alive))
		}
		if first.Set() != set || second.Set() != set {
			t.Errorf("%d and %b: Could has counted: %b, %b", c.l, c.alive, first.Set(), second.Set())
		}
	}
}

// configs returns, for each shape that may be and each kind of quorum in it, a
// configuration with that kind and all nodes as the other kind.
func configs() []grid.Config {
	var l []grid.Config
	for regions := 1; regions <= api.MaxRegions; regions++ {
		for per := 1; per <= api.MaxPer && regions*per <= api.MaxNodes; per++ {
			all := grid.Kind{Zones: regions, Nodes: per}
			for i := range regions * per {
				k := grid.Kind{Zones: i/per + 1, Nodes: i%per + 1}
				l = append(l, grid.Config{Regions: regions, Per: per, First: k, Second: all})
			}
		}
	}
	return l
}

// isQuorum is the definition: at least Nodes nodes in each of at least Zones
// regions.
func isQuorum(c grid.Config, k grid.Kind, set uint32) bool {
	zones := 0
	for r := range c.Regions {
		if bits.OnesCount32(set>>(r*c.Per)&(1<<c.Per-1)) >= k.Nodes {
			zones++
		}
	}
	return zones >= k.Zones
}

// least returns, for each set of nodes, how many others a quorum needs: one
// more than the best set that has one more node.
func least(c grid.Config, k grid.Kind) []int {
	l := make([]int, c.All()+1)
	for set := len(l) - 1; set >= 0; set-- {
		if isQuorum(c, k, uint32(set)) {
			continue
		}
		l[set] = api.MaxNodes + 1
		for n := range c.Len() {
			if set>>n&1 == 0 {
				l[set] = min(l[set], l[set|1<<n]+1)
			}
		}
	}
	return l
}

// agree fails unless a count is, for each set of nodes, what the definition
// says.
func agree(t *testing.T, c grid.Config, k grid.Kind, empty func(grid.Config) *Votes) {
	t.Helper()
	want := least(c, k)
	g := rand.New(rand.NewSource(1))
	for set := range c.All() + 1 {
		v := empty(c)
		for _, i := range g.Perm(c.Len()) {
			if set>>i&1 == 1 && !v.Add(i) {
				t.Fatalf("%+v: node %d after %b: false", c, i, v.Set())
			}
		}
		alive := g.Uint32() & g.Uint32()
		if v.Set() != set || v.Done() != (want[set] == 0) || v.Least() != want[set] || v.Could(alive) != isQuorum(c, k, set|alive) {
			t.Fatalf("%+v, %+v: %b, %v, %d, and with %b %v; not %b, %d", c, k, v.Set(), v.Done(), v.Least(), alive, v.Could(alive), set, want[set])
		}
	}
}

// P9.1, P9.2: every set of nodes of every shape, for every kind of quorum.
func TestEverySet(t *testing.T) {
	for _, c := range configs() {
		if e := c.Check(); e != api.OK {
			t.Fatalf("%+v: Check: %d", c, e)
		}
		agree(t, c, c.First, First)
		c.First, c.Second = c.Second, c.First
		agree(t, c, c.Second, Second)
	}
}

// P9.2: with fewer nodes than Least there is no quorum, whichever they are,
// and with that many suitable ones there is; witnesses vote as others do.
func TestLeastIsMinimal(t *testing.T) {
	for _, c := range []grid.Config{
		three(),
		{Regions: 4, Per: 3, Witness: grid.Set(0, 3), First: grid.Kind{Zones: 4, Nodes: 3}, Second: grid.Kind{Zones: 2, Nodes: 2}},
		{Regions: 1, Per: 4, Witness: grid.Set(3), First: grid.Kind{Zones: 1, Nodes: 3}, Second: grid.Kind{Zones: 1, Nodes: 3}},
		{Regions: 4, Per: 1, First: grid.Kind{Zones: 2, Nodes: 1}, Second: grid.Kind{Zones: 3, Nodes: 1}},
	} {
		if e := c.Check(); e != api.OK {
			t.Fatalf("%+v: Check: %d", c, e)
		}
		g := rand.New(rand.NewSource(2))
		for _, empty := range []func(grid.Config) *Votes{First, Second} {
			for range 30 {
				v := after(t, empty(c), grid.List(g.Uint32()&g.Uint32()&c.All())...)
				enough := false
				for more := range c.All() + 1 {
					size, done := bits.OnesCount32(more), v.Could(more)
					if done && size < v.Least() {
						t.Fatalf("%+v: %b: %b is enough, and Least is %d", c, v.Set(), more, v.Least())
					}
					enough = enough || done && size == v.Least() && more&v.Set() == 0
				}
				if !enough {
					t.Fatalf("%+v: %b: no %d nodes are enough", c, v.Set(), v.Least())
				}
			}
		}
	}
}

// P9.1: a copy counts for the same kind of quorum, and what one of the two
// counts later does not change the other one.
func TestClone(t *testing.T) {
	first := after(t, First(three()), 0, 1)
	second := after(t, Second(three()), 0, 1, 3)
	a, b := first.Clone(), second.Clone()
	is(t, a, 0b11, false, 4)
	is(t, b, 0b1011, false, 1)
	after(t, a, 3, 4)
	after(t, second, 5)
	is(t, first, 0b11, false, 4)
	is(t, a, 0b11011, false, 2)
	is(t, b, 0b1011, false, 1)
	is(t, second, 0b101011, true, 0)
	if a.Add(0) || !first.Add(3) || !b.Add(5) || !a.Clone().Add(6) || !a.Add(6) {
		t.Errorf("a copy is not independent")
	}
	is(t, First(three()).Clone(), 0, false, 6)
}

// P9.1: each count is its own, also of the same configuration.
func TestCountsAreIndependent(t *testing.T) {
	c := three()
	a, b := First(c), First(c)
	after(t, a, 0, 1)
	c.Regions, c.First.Nodes = 1, 1
	is(t, a, 0b11, false, 4)
	is(t, b, 0, false, 6)
}

// P9.1: the methods of the configuration are those of the count.
func TestConfig(t *testing.T) {
	v := after(t, First(three()), 8)
	if v.Config != three() || v.Len() != 9 || v.Region(8) != 2 || v.Witnesses() != 0b100 || !v.Has(8) || v.Has(9) {
		t.Errorf("%+v", v.Config)
	}
}

// Rule 1: a configuration that Check refuses is accepted, and nobody votes.
func TestWrongConfigs(t *testing.T) {
	huge := grid.Kind{Zones: math.MaxInt, Nodes: math.MaxInt}
	low := grid.Kind{Zones: math.MinInt, Nodes: -1}
	one := grid.Kind{Zones: 1, Nodes: 1}
	for _, c := range []grid.Config{
		{},
		{Regions: math.MaxInt, Per: math.MaxInt, First: huge, Second: huge},
		{Regions: math.MinInt, Per: -1, First: low, Second: low},
		{Regions: 3, Per: 3, First: huge, Second: low},
		{Regions: 3, Per: 3, First: one, Second: one},
		{Regions: 1, Per: 1, Witness: 1, First: one, Second: one},
		{Regions: math.MaxInt, First: one, Second: one},
	} {
		for _, v := range []*Votes{First(c), Second(c), First(c).Clone(), Second(c).Clone()} {
			for _, n := range append(odd(), 0, 1, 11) {
				if v.Add(n) {
					t.Errorf("%+v: %d is a node", c, n)
				}
			}
			is(t, v, 0, false, 0)
			if v.Could(0) || v.Could(math.MaxUint32) {
				t.Errorf("%+v: a quorum", c)
			}
		}
	}
}
