package tests

import (
	"math/rand"
	"slices"
	"testing"

	"loop.example/g01128/impl"
)

// compareWalks compares set by set.
func compareWalks(a [][]int, b [][]int) int {
	return slices.CompareFunc(a, b, slices.Compare[[]int])
}

// firstWalk looks at all shortest walks; there is none if a distance is less than 0.
func firstWalk(x impl.Space, table [][]int, i int, j int) [][]int {
	walks := [][][]int{}
	for _, way := range shortestWays(x, table, i, j) {
		walk := [][]int{}
		for _, place := range way {
			walk = append(walk, x.States[place])
		}
		walks = append(walks, walk)
	}
	if len(walks) == 0 {
		return nil
	}
	return slices.MinFunc(walks, compareWalks)
}

// somePairs returns all pairs of places if there are few, and chosen ones otherwise.
func somePairs(n int, random *rand.Rand) [][2]int {
	pairs := [][2]int{}
	if n > 24 {
		for range 60 {
			pairs = append(pairs, [2]int{random.Intn(n), random.Intn(n)})
		}
		return pairs
	}
	for i := range n {
		for j := range n {
			pairs = append(pairs, [2]int{i, j})
		}
	}
	return pairs
}

// walkGraphs has all Graphs of few nodes, and no great Graphs with few edges: these have too
// many shortest walks to look at each.
func walkGraphs() []impl.Graph {
	graphs := []impl.Graph{parted(), rowOf(7), rowOf(8), starOf(7), cycleOf(7), cycleOf(8), {Size: 6}}
	for _, g := range graphsOf(4) {
		if len(independentIn(g, 0, g.Size)) <= 40 {
			graphs = append(graphs, g)
		}
	}
	return graphs
}

// checkWalks checks a function that returns walks for the pairs of States of a Space.
func checkWalks(t *testing.T, x impl.Space, random *rand.Rand, walkOf func(a []int, b []int) ([][]int, bool)) {
	t.Helper()
	table := distanceTable(x)
	for _, pair := range somePairs(len(x.States), random) {
		a, b := x.States[pair[0]], x.States[pair[1]]
		want := firstWalk(x, table, pair[0], pair[1])
		walk, ok := walkOf(a, b)
		if ok != (len(want) > 0) || compareWalks(walk, want) != 0 {
			t.Fatal("walk", a, b, walk, ok, want)
		}
	}
}

func TestWalksOfTokens(t *testing.T) {
	random := rand.New(rand.NewSource(4))
	for _, g := range walkGraphs() {
		for k := range g.Size + 1 {
			checkWalks(t, slideSpace(g, k), random, func(a []int, b []int) ([][]int, bool) { return impl.SlideWalk(g, a, b) })
			checkWalks(t, jumpSpace(g, k), random, func(a []int, b []int) ([][]int, bool) { return impl.JumpWalk(g, a, b) })
			checkWalks(t, addSpace(g, k), random, func(a []int, b []int) ([][]int, bool) { return impl.AddWalk(g, k, a, b) })
		}
	}
}

func TestWalksOfSetsWithDifferentNumbersOfNodes(t *testing.T) {
	random := rand.New(rand.NewSource(8))
	for _, g := range append(graphsOf(3), parted(), rowOf(5), starOf(5), cycleOf(5)) {
		sets := independentIn(g, 0, g.Size)
		for _, pair := range somePairs(len(sets), random) {
			if a, b := sets[pair[0]], sets[pair[1]]; len(a) != len(b) {
				for _, c := range []aCall{
					{"SlideWalk", impl.SlideWalk, []any{g, a, b}},
					{"JumpWalk", impl.JumpWalk, []any{g, a, b}},
					{"TokenBound", impl.TokenBound, []any{g, a, b}},
					{"ForestMeets", impl.ForestMeets, []any{g, a, b}},
				} {
					if !c.fails() {
						t.Fatal("different numbers", g, a, b, c.name)
					}
				}
				if walk, ok := impl.AddWalk(g, 0, a, b); !ok || len(walk) != 1+len(apart(a, b)) {
					t.Fatal("addings", g, a, b, walk, ok)
				}
			}
		}
	}
}

func TestAddWalkWithTooFewNodes(t *testing.T) {
	for _, g := range append(graphsOf(3), parted()) {
		sets := independentIn(g, 0, g.Size)
		for k, a := range sets[:min(len(sets), 30)] {
			b := sets[(k+1)%len(sets)]
			for least := range impl.MaxNodes + 1 {
				walk, ok := impl.AddWalk(g, least, a, a)
				if ok != (len(a) >= least) || ok && !sameLists(walk, [][]int{a}) || !ok && len(walk) != 0 {
					t.Fatal("the same set", g, least, a, walk, ok)
				}
				if walk, ok := impl.AddWalk(g, least, a, b); min(len(a), len(b)) < least && (ok || len(walk) != 0) {
					t.Fatal("too few nodes", g, least, a, b, walk)
				}
			}
		}
	}
}

func TestFirstWalksOfSeveral(t *testing.T) {
	none, ring := impl.Graph{Size: 4}, impl.Graph{Size: 4, Edges: [][2]int{{0, 2}, {0, 3}, {1, 2}, {1, 3}}}
	edge := impl.Graph{Size: 2, Edges: [][2]int{{0, 1}}}
	type lists = [][]int
	for _, c := range []struct {
		name string
		walk func() ([][]int, bool)
		want [][]int
	}{
		{"slides", func() (lists, bool) { return impl.SlideWalk(ring, []int{0}, []int{1}) }, lists{{0}, {2}, {1}}},
		{"slides back", func() (lists, bool) { return impl.SlideWalk(ring, []int{3}, []int{2}) }, lists{{3}, {0}, {2}}},
		{"slides of two", func() (lists, bool) { return impl.SlideWalk(parted(), []int{1, 3}, []int{0, 2}) }, lists{{1, 3}, {0, 3}, {0, 2}}},
		{"slides across", func() (lists, bool) { return impl.SlideWalk(parted(), []int{0, 3}, []int{1, 2}) }, lists{{0, 3}, {0, 2}, {1, 2}}},
		{"jumps", func() (lists, bool) { return impl.JumpWalk(none, []int{2, 3}, []int{0, 1}) }, lists{{2, 3}, {0, 2}, {0, 1}}},
		{"jumps back", func() (lists, bool) { return impl.JumpWalk(none, []int{0, 1}, []int{2, 3}) }, lists{{0, 1}, {0, 2}, {2, 3}}},
		{"addings", func() (lists, bool) { return impl.AddWalk(none, 0, []int{0}, []int{1}) }, lists{{0}, {}, {1}}},
		{"addings of more", func() (lists, bool) { return impl.AddWalk(none, 1, []int{0}, []int{1}) }, lists{{0}, {0, 1}, {1}}},
		{"addings up", func() (lists, bool) { return impl.AddWalk(none, 0, []int{2}, []int{0, 1, 2}) }, lists{{2}, {0, 2}, {0, 1, 2}}},
		{"addings on an edge", func() (lists, bool) { return impl.AddWalk(edge, 0, []int{1}, []int{0}) }, lists{{1}, {}, {0}}},
		{"no addings", func() (lists, bool) { return impl.AddWalk(edge, 1, []int{1}, []int{0}) }, nil},
		{"a jump", func() (lists, bool) { return impl.JumpWalk(edge, []int{1}, []int{0}) }, lists{{1}, {0}}},
		{"no slides between parts", func() (lists, bool) { return impl.SlideWalk(parted(), []int{0, 2}, []int{2, 4}) }, nil},
		{"a jump between parts", func() (lists, bool) { return impl.JumpWalk(parted(), []int{0, 2}, []int{2, 4}) }, lists{{0, 2}, {2, 4}}},
		{"no way past", func() (lists, bool) { return impl.SlideWalk(rowOf(3), []int{0, 2}, []int{0, 2}) }, lists{{0, 2}}},
		{"no jumps", func() (lists, bool) { return impl.JumpWalk(cycleOf(4), []int{0, 2}, []int{1, 3}) }, nil},
	} {
		walk, ok := c.walk()
		if ok != (c.want != nil) || !sameLists(walk, c.want) {
			t.Error(c.name, walk, ok)
		}
	}
}

// twoSides returns the Graph with all edges between the first n nodes and n others: no two
// tokens come to the other side.
func twoSides(n int) impl.Graph {
	isWithin := func(edge [2]int) bool { return edge[1] < n || edge[0] >= n }
	return impl.Graph{Size: 2 * n, Edges: slices.DeleteFunc(pairsOf(2*n), isWithin)}
}

// TestJumpsAndAddings: each jump is a taking away and an adding.
func TestJumpsAndAddings(t *testing.T) {
	random := rand.New(rand.NewSource(5))
	walks, none := 0, 0
	for _, g := range append(walkGraphs(), starOf(8), twoSides(3), twoSides(4), impl.Graph{Size: 8}) {
		for k := 1; k <= g.Size; k++ {
			sets := independentIn(g, k, k)
			for _, pair := range somePairs(len(sets), random) {
				a, b := sets[pair[0]], sets[pair[1]]
				jumps, one := impl.JumpWalk(g, a, b)
				adds, two := impl.AddWalk(g, k-1, a, b)
				if one != two || one && len(adds)-1 != 2*(len(jumps)-1) {
					t.Fatal("jumps and addings", g, a, b, jumps, adds)
				}
				if one {
					walks++
				} else {
					none++
				}
			}
		}
	}
	if walks < 1000 || none < 100 {
		t.Error("too few of a sort", walks, none)
	}
}

// nodeDistances returns the distances between nodes, -1 where there is no way.
func nodeDistances(g impl.Graph) [][]int {
	return distanceTable(impl.Space{States: lineStates(g.Size), Steps: g.Edges})
}

// boundOf tries all orders of b.
func boundOf(table [][]int, a []int, b []int) (int, bool) {
	if len(a) == 0 {
		return 0, true
	}
	least, found := 0, false
	for k, node := range b {
		rest, ok := boundOf(table, a[1:], slices.Delete(slices.Clone(b), k, k+1))
		sum := table[a[0]][node] + rest
		if ok && table[a[0]][node] >= 0 && (!found || sum < least) {
			least, found = sum, true
		}
	}
	return least, found
}

func TestTokenBound(t *testing.T) {
	random := rand.New(rand.NewSource(6))
	bounds, none, longer := 0, 0, 0
	for _, g := range append(graphsOf(5), rowOf(8), cycleOf(8), starOf(8), parted()) {
		table := nodeDistances(g)
		for k := range g.Size + 1 {
			sets := independentIn(g, k, k)
			for _, pair := range somePairs(len(sets), random) {
				a, b := sets[pair[0]], sets[pair[1]]
				want, fine := boundOf(table, a, b)
				bound, ok := impl.TokenBound(g, a, b)
				if ok != fine || bound != want {
					t.Fatal("bound", g, a, b, bound, ok, want)
				}
				walk, there := impl.SlideWalk(g, a, b)
				if there && (!ok || len(walk)-1 < bound) {
					t.Fatal("a shorter walk", g, a, b, walk, bound)
				}
				switch {
				case !ok:
					none++
				case there && len(walk)-1 > bound:
					longer++
				default:
					bounds++
				}
			}
		}
	}
	if bounds < 1000 || none < 1000 || longer == 0 {
		t.Error("too few of a sort", bounds, none, longer)
	}
}

func TestTokenBoundOfExamples(t *testing.T) {
	twoRows := impl.Graph{Size: 7, Edges: [][2]int{{0, 1}, {1, 2}, {3, 4}, {4, 5}, {5, 6}}}
	// A row of 3, 0, 2, 1: the tokens do not go to the nodes of the other set in ascending order.
	mixed := impl.Graph{Size: 4, Edges: [][2]int{{0, 2}, {0, 3}, {1, 2}}}
	for _, c := range []struct {
		g    impl.Graph
		a, b []int
		want int
	}{
		{rowOf(8), []int{0, 2, 4}, []int{3, 5, 7}, 9}, {rowOf(8), []int{0, 2, 4, 6}, []int{1, 3, 5, 7}, 4},
		{rowOf(8), []int{0}, []int{7}, 7}, {rowOf(8), []int{3}, []int{3}, 0}, {cycleOf(8), []int{0}, []int{7}, 1},
		{starOf(8), []int{1, 2, 3, 4, 5, 6, 7}, []int{1, 2, 3, 4, 5, 6, 7}, 0}, {starOf(8), []int{1, 2, 3}, []int{4, 5, 6}, 6},
		{starOf(8), []int{1, 2, 3}, []int{3, 4, 5}, 4}, {impl.Graph{Size: 8}, setOf(255), setOf(255), 0},
		{twoRows, []int{0, 2, 3, 5}, []int{0, 2, 4, 6}, 2}, {twoRows, []int{0, 3}, []int{2, 6}, 5},
		{mixed, []int{0, 1}, []int{2, 3}, 2}, {mixed, []int{1, 3}, []int{0, 1}, 1}, {parted(), []int{0, 2}, []int{1, 3}, 2},
	} {
		forth, one := impl.TokenBound(c.g, c.a, c.b)
		back, two := impl.TokenBound(c.g, c.b, c.a)
		if !one || !two || forth != c.want || back != c.want {
			t.Error("bound", c, forth, back, one, two)
		}
	}
	for _, c := range [][2][]int{{{0, 2}, {0, 3}}, {{0, 2, 3}, {0, 3, 5}}, {{0}, {3}}, {{1, 3}, {3, 5}}} {
		for _, call := range []aCall{
			{"TokenBound", impl.TokenBound, []any{twoRows, c[0], c[1]}},
			{"TokenBound", impl.TokenBound, []any{twoRows, c[1], c[0]}},
			{"SlideWalk", impl.SlideWalk, []any{twoRows, c[0], c[1]}},
		} {
			if !call.fails() {
				t.Error("not enough ways", c, call.name)
			}
		}
	}
}
