package grid

import (
	"math"
	"math/rand"
	"slices"
	"testing"

	"chatelaine/api"
)

// shape is how many regions there are, and how many nodes in each.
type shape struct{ regions, per int }

func (s shape) nodes() int { return s.regions * s.per }

// all returns the set of all nodes.
func (s shape) all() uint32 { return uint32(1<<s.nodes() - 1) }

// kinds returns every kind of quorum that may be.
func (s shape) kinds() []Kind {
	var l []Kind
	for zones := 1; zones <= s.regions; zones++ {
		for nodes := 1; nodes <= s.per; nodes++ {
			l = append(l, Kind{zones, nodes})
		}
	}
	return l
}

// config returns a configuration of that shape.
func (s shape) config(witness uint32, first, second Kind) Config {
	return Config{s.regions, s.per, witness, first, second}
}

// shapes returns every shape that may be.
func shapes() []shape {
	var l []shape
	for regions := 1; regions <= 4; regions++ {
		for per := 1; per <= 4; per++ {
			if s := (shape{regions, per}); s.nodes() <= 12 {
				l = append(l, s)
			}
		}
	}
	return l
}

// isQuorum is the definition: at least Nodes nodes in each of at least Zones
// regions.
func (s shape) isQuorum(k Kind, set uint32) bool {
	var in [4]int
	for n := range s.nodes() {
		if set>>n&1 == 1 {
			in[n/s.per]++
		}
	}
	zones := 0
	for _, nodes := range in[:s.regions] {
		if nodes >= k.Nodes {
			zones++
		}
	}
	return zones >= k.Zones
}

// least returns the quorums of a kind that are none without any one node.
func (s shape) least(k Kind) []uint32 {
	var l []uint32
	for set := range s.all() + 1 {
		found := s.isQuorum(k, set)
		for n := range s.nodes() {
			found = found && (set>>n&1 == 0 || !s.isQuorum(k, set&^(1<<n)))
		}
		if found {
			l = append(l, set)
		}
	}
	return l
}

// bad returns, for each set of witnesses, whether two of these quorums have no
// common node other than these.
func (s shape) bad(first, second []uint32) []bool {
	l := make([]bool, s.all()+1)
	for _, a := range first {
		for _, b := range second {
			l[a&b] = true
		}
	}
	for n := range s.nodes() {
		for set := range l {
			if set>>n&1 == 1 {
				l[set] = l[set] || l[set&^(1<<n)]
			}
		}
	}
	return l
}

// refused fails unless Check and all other methods refuse a configuration.
func refused(t *testing.T, c Config) {
	t.Helper()
	if e := c.Check(); e != api.ErrConfig {
		t.Fatalf("%+v: Check: %d", c, e)
	}
	if c.Len() != 0 || c.Witnesses() != 0 || c.All() != 0 {
		t.Fatalf("%+v: %d nodes, the witnesses %x of %x", c, c.Len(), c.Witnesses(), c.All())
	}
	for _, n := range []int{0, 1, 11, -1, 32, math.MinInt, math.MaxInt} {
		if c.Has(n) || c.Region(n) != -1 {
			t.Fatalf("%+v: the node %d is in %d", c, n, c.Region(n))
		}
	}
	for _, set := range []uint32{0, 1, 0xfff, math.MaxUint32} {
		if c.IsFirst(set) || c.IsSecond(set) {
			t.Fatalf("%+v: %x is a quorum", c, set)
		}
	}
}

// accepted fails unless Check accepts a configuration.
func accepted(t *testing.T, c Config) {
	t.Helper()
	if e := c.Check(); e != api.OK {
		t.Fatalf("%+v: Check: %d", c, e)
	}
}

// P7.2: the examples.
func TestExamples(t *testing.T) {
	most, all := Kind{2, 2}, Kind{3, 2}
	s := shape{3, 3}
	accepted(t, s.config(0, most, most))
	accepted(t, s.config(0, all, most))
	for n := range 9 {
		refused(t, s.config(1<<n, most, most))
		accepted(t, s.config(1<<n, all, most))
		accepted(t, s.config(1<<n, most, all))
	}
	refused(t, s.config(Set(0, 3), all, most))
	refused(t, s.config(Set(8, 5), all, most))
	refused(t, s.config(Set(2, 6), most, all))
}

// P7.2: each number at both ends of its range, and beyond them.
func TestForm(t *testing.T) {
	accepted(t, Config{1, 1, 0, Kind{1, 1}, Kind{1, 1}})
	accepted(t, Config{4, 3, 0, Kind{4, 3}, Kind{1, 1}})
	accepted(t, Config{3, 4, 0, Kind{1, 1}, Kind{3, 4}})
	accepted(t, Config{3, 4, 0xffe, Kind{3, 4}, Kind{3, 4}})
	refused(t, Config{})
	odd := []int{0, -1, -4, 5, 6, 12, 13, 32, 64, 1 << 32, 1<<32 + 3, 1 << 62, 1 << 63 / 3, math.MinInt, math.MinInt + 3, math.MaxInt}
	all := Kind{3, 3}
	for _, n := range odd {
		refused(t, Config{n, 3, 0, all, all})
		refused(t, Config{n, 1, 0, Kind{1, 1}, Kind{1, 1}})
		refused(t, Config{3, n, 0, all, all})
		refused(t, Config{1, n, 0, Kind{1, 1}, Kind{1, 1}})
		refused(t, Config{n, n, 0, Kind{n, n}, Kind{n, n}})
		refused(t, Config{n, n, 0, Kind{1, 1}, Kind{1, 1}})
	}
	for _, n := range append(odd, 4) {
		refused(t, Config{3, 3, 0, Kind{n, 3}, all})
		refused(t, Config{3, 3, 0, Kind{3, n}, all})
		refused(t, Config{3, 3, 0, all, Kind{n, 3}})
		refused(t, Config{3, 3, 0, all, Kind{3, n}})
	}
	refused(t, Config{4, 4, 0, Kind{4, 4}, Kind{4, 4}})
	refused(t, Config{4, 4, 0, Kind{3, 3}, Kind{3, 3}})
}

// P7.2: a kind's Zones are limited by Regions and its Nodes by Per, not the
// other way round.
func TestLimitsOfKinds(t *testing.T) {
	for _, s := range shapes() {
		all := Kind{s.regions, s.per}
		accepted(t, s.config(0, all, all))
		for _, k := range []Kind{{s.regions + 1, s.per}, {s.regions, s.per + 1}, {0, s.per}, {s.regions, 0}, {-1, s.per}, {s.regions, -1}} {
			refused(t, s.config(0, k, all))
			refused(t, s.config(0, all, k))
			refused(t, s.config(0, k, k))
		}
	}
}

// P7.2: every bit that is not a node is refused as a witness.
func TestWitnessesAreNodes(t *testing.T) {
	for _, s := range shapes() {
		all := Kind{s.regions, s.per}
		for n := range 32 {
			c := s.config(1<<n, all, all)
			if n < s.nodes() && s.nodes() > 1 {
				accepted(t, c)
			} else {
				refused(t, c)
			}
		}
		refused(t, s.config(math.MaxUint32, all, all))
	}
}

// P7.2: every configuration that has the right form, against the definition.
func TestEveryConfig(t *testing.T) {
	for _, s := range shapes() {
		var least [][]uint32
		for _, k := range s.kinds() {
			least = append(least, s.least(k))
		}
		right := 0
		for i, first := range s.kinds() {
			for j, second := range s.kinds() {
				for witness, wrong := range s.bad(least[i], least[j]) {
					c := s.config(uint32(witness), first, second)
					if wrong {
						refused(t, c)
						continue
					}
					accepted(t, c)
					right++
				}
			}
		}
		if right == 0 {
			t.Errorf("%+v: no configuration is accepted", s)
		}
	}
}

// P7.1: the nodes, their regions and the witnesses.
func TestNodes(t *testing.T) {
	for _, s := range shapes() {
		all := Kind{s.regions, s.per}
		for witness := range s.all() {
			c := s.config(witness, all, all)
			accepted(t, c)
			if c.Len() != s.nodes() || c.All() != s.all() || c.Witnesses() != witness {
				t.Fatalf("%+v: %d nodes, the witnesses %x of %x", c, c.Len(), c.Witnesses(), c.All())
			}
		}
		c := s.config(0, all, all)
		n := 0
		for r := range s.regions {
			for range s.per {
				if !c.Has(n) || c.Region(n) != r {
					t.Errorf("%+v: the node %d is in %d", s, n, c.Region(n))
				}
				n++
			}
		}
		for _, n := range []int{-1, -2, -s.per, -s.nodes(), n, n + 1, 12, 16, 31, 32, 64, math.MinInt, math.MaxInt} {
			if c.Has(n) || c.Region(n) != -1 {
				t.Errorf("%+v: there is a node %d in %d", s, n, c.Region(n))
			}
		}
	}
}

// P7.1: quorums of a configuration whose kinds differ.
func TestQuorums(t *testing.T) {
	c := Config{3, 3, 1, Kind{3, 2}, Kind{2, 2}}
	for _, q := range []struct {
		set           []int
		first, second bool
	}{
		{nil, false, false},
		{[]int{0, 1}, false, false},
		{[]int{0, 1, 2}, false, false},
		{[]int{0, 3, 6}, false, false},
		{[]int{0, 1, 2, 3, 6}, false, false},
		{[]int{1, 2, 3}, false, false},
		{[]int{0, 1, 3, 4}, false, true},
		{[]int{0, 2, 7, 8}, false, true},
		{[]int{3, 4, 5, 6, 7, 8}, false, true},
		{[]int{0, 1, 2, 3, 4, 5, 6}, false, true},
		{[]int{0, 1, 3, 4, 6, 7}, true, true},
		{[]int{1, 2, 4, 5, 7, 8}, true, true},
		{[]int{0, 1, 2, 3, 4, 5, 6, 7, 8}, true, true},
		{[]int{0, 1, 9, 10, 12, 13}, false, false},
		{[]int{0, 1, 3, 9, 10, 11, 31}, false, false},
		{[]int{0, 1, 3, 4, 9, 10, 31}, false, true},
	} {
		set := Set(q.set...)
		if c.IsFirst(set) != q.first || c.IsSecond(set) != q.second {
			t.Errorf("%d: %v, %v", q.set, c.IsFirst(set), c.IsSecond(set))
		}
	}
}

// P7.1, P7.3: each set of nodes of each shape, for each pair of kinds, against
// the definition; a superset of a quorum is one, and bits that are not nodes
// do not matter.
func TestEveryQuorum(t *testing.T) {
	for _, s := range shapes() {
		for _, first := range s.kinds() {
			for _, second := range s.kinds() {
				if c := s.config(0, first, second); c.Check() == api.OK {
					hold(t, s, c)
				}
			}
		}
	}
}

// hold fails unless the quorums of c are those of the definition.
func hold(t *testing.T, s shape, c Config) {
	t.Helper()
	isFirst, isSecond := make([]bool, s.all()+1), make([]bool, s.all()+1)
	for set := range s.all() + 1 {
		isFirst[set], isSecond[set] = c.IsFirst(set), c.IsSecond(set)
		if isFirst[set] != s.isQuorum(c.First, set) || isSecond[set] != s.isQuorum(c.Second, set) {
			t.Fatalf("%+v: %x: %v, %v", c, set, isFirst[set], isSecond[set])
		}
		if more := set | ^s.all(); c.IsFirst(more) != isFirst[set] || c.IsSecond(more) != isSecond[set] {
			t.Fatalf("%+v: %x differs from %x", c, more, set)
		}
		for _, n := range List(set) {
			less := set &^ Set(n)
			if isFirst[less] && !isFirst[set] || isSecond[less] && !isSecond[set] {
				t.Fatalf("%+v: %x is a quorum, and %x is not", c, less, set)
			}
		}
	}
}

// P7.2: with witnesses, the quorums stay the same, and any two of them have a
// common node that is none.
func TestQuorumsMeet(t *testing.T) {
	g := rand.New(rand.NewSource(7))
	for _, s := range shapes() {
		for range 200 {
			k := s.kinds()
			c := s.config(g.Uint32()&g.Uint32()&s.all(), k[g.Intn(len(k))], k[g.Intn(len(k))])
			if c.Check() != api.OK {
				continue
			}
			for range 200 {
				a, b := g.Uint32(), g.Uint32()
				if c.IsFirst(a) != s.isQuorum(c.First, a) || c.IsSecond(b) != s.isQuorum(c.Second, b) {
					t.Fatalf("%+v: %x: %v, %x: %v", c, a, c.IsFirst(a), b, c.IsSecond(b))
				}
				if c.IsFirst(a) && c.IsSecond(b) && a&b&c.All()&^c.Witnesses() == 0 {
					t.Fatalf("%+v: %x and %x do not meet", c, a, b)
				}
			}
		}
	}
}

// P7.1: sets of nodes; numbers other than 0 to 31 are ignored.
func TestSet(t *testing.T) {
	for _, c := range []struct {
		l    []int
		want uint32
	}{
		{nil, 0},
		{[]int{}, 0},
		{[]int{0}, 1},
		{[]int{31}, 1 << 31},
		{[]int{3, 1, 2}, 0b1110},
		{[]int{5, 5, 5}, 1 << 5},
		{[]int{11, 12, 0}, 1<<11 | 1<<12 | 1},
		{[]int{-1}, 0},
		{[]int{32}, 0},
		{[]int{64, 33, 1 << 32, 1<<32 + 1, -32, -31, -64, math.MinInt, math.MaxInt}, 0},
		{[]int{-1, 4, 32, 7, math.MinInt}, 1<<4 | 1<<7},
	} {
		given := slices.Clone(c.l)
		if got := Set(c.l...); got != c.want {
			t.Errorf("Set(%d): %x, not %x", c.l, got, c.want)
		}
		if !slices.Equal(given, c.l) {
			t.Errorf("Set changed %d to %d", given, c.l)
		}
	}
}

// P7.1: lists are ascending, without duplicates, and the inverse of sets.
func TestList(t *testing.T) {
	for _, c := range []struct {
		set  uint32
		want []int
	}{
		{0, nil},
		{1, []int{0}},
		{1 << 31, []int{31}},
		{0b101101, []int{0, 2, 3, 5}},
		{1<<12 | 1<<11, []int{11, 12}},
		{0xf0000001, []int{0, 28, 29, 30, 31}},
	} {
		if got := List(c.set); !slices.Equal(got, c.want) {
			t.Errorf("List(%x): %d, not %d", c.set, got, c.want)
		}
	}
	g := rand.New(rand.NewSource(1))
	for range 10000 {
		set := g.Uint32() >> g.Intn(32)
		l := List(set)
		for i, n := range l {
			if n < 0 || n > 31 || set>>n&1 == 0 || i > 0 && n <= l[i-1] {
				t.Fatalf("List(%x): %d", set, l)
			}
		}
		if Set(l...) != set {
			t.Fatalf("%x: %d is %x", set, l, Set(l...))
		}
	}
	if l := List(math.MaxUint32); len(l) != 32 || l[0] != 0 || l[31] != 31 {
		t.Errorf("all: %d", l)
	}
}
