package tests

import (
	"cmp"
	"slices"
	"testing"

	"loop.example/g01128/impl"
)

var allKinds = []int{impl.KindCover, impl.KindClique, impl.KindDominates}

func TestNumbersOfKinds(t *testing.T) {
	if !slices.Equal(allKinds, []int{1, 2, 3}) {
		t.Error("kinds", allKinds)
	}
}

// hasKind looks at a set as digits, by the definition of each kind.
func hasKind(g impl.Graph, kind int, digits int) bool {
	isIn := func(node int) bool { return digits>>node&1 == 1 }
	switch kind {
	case impl.KindCover:
		return !slices.ContainsFunc(g.Edges, func(edge [2]int) bool { return !isIn(edge[0]) && !isIn(edge[1]) })
	case impl.KindClique:
		return !slices.ContainsFunc(pairsOf(g.Size), func(pair [2]int) bool {
			return isIn(pair[0]) && isIn(pair[1]) && !slices.Contains(g.Edges, pair)
		})
	}
	reached := digits
	for _, edge := range g.Edges {
		if isIn(edge[0]) {
			reached |= 1 << edge[1]
		}
		if isIn(edge[1]) {
			reached |= 1 << edge[0]
		}
	}
	return reached == 1<<g.Size-1
}

// kindSets returns the sets of a kind with least..most nodes, in lexicographic order.
func kindSets(g impl.Graph, kind int, least int, most int) [][]int {
	sets := [][]int{}
	for digits := range 1 << g.Size {
		if set := setOf(digits); least <= len(set) && len(set) <= most && hasKind(g, kind, digits) {
			sets = append(sets, set)
		}
	}
	slices.SortFunc(sets, slices.Compare[[]int])
	return sets
}

// otherSets returns the sets that do not have a kind.
func otherSets(g impl.Graph, kind int) [][]int {
	sets := [][]int{}
	for digits := range 1 << g.Size {
		if !hasKind(g, kind, digits) {
			sets = append(sets, setOf(digits))
		}
	}
	return sets
}

// compareSets compares by numbers of nodes first.
func compareSets(a []int, b []int) int {
	return cmp.Or(cmp.Compare(len(a), len(b)), slices.Compare(a, b))
}

// isTight reports whether no greater clique has all nodes of a set, or no less set of another
// kind has only nodes of it: all sets are looked at, not only those that differ by one node.
func isTight(g impl.Graph, kind int, digits int) bool {
	for other := range 1 << g.Size {
		small, great := other, digits
		if kind == impl.KindClique {
			small, great = digits, other
		}
		if other != digits && small&^great == 0 && hasKind(g, kind, other) {
			return false
		}
	}
	return true
}

// tightSets returns all tight sets of a kind, in the order in which they are compared.
func tightSets(g impl.Graph, kind int) [][]int {
	sets := slices.DeleteFunc(kindSets(g, kind, 0, g.Size), func(set []int) bool { return !isTight(g, kind, digitsFor(set)) })
	slices.SortFunc(sets, compareSets)
	return sets
}

func complete(n int) impl.Graph { return impl.Graph{Size: n, Edges: pairsOf(n)} }

// twoTriangles has a node in common, and a node alone.
func twoTriangles() impl.Graph {
	return impl.Graph{Size: 6, Edges: [][2]int{{0, 1}, {0, 2}, {1, 2}, {2, 3}, {2, 4}, {3, 4}}}
}

// cube has neighbors where one binary digit differs.
func cube() impl.Graph {
	isDiagonal := func(pair [2]int) bool { return len(setOf(pair[0]^pair[1])) != 1 }
	return impl.Graph{Size: 8, Edges: slices.DeleteFunc(pairsOf(8), isDiagonal)}
}

// twoBlocks returns the Graph with two complete parts of 4 nodes.
func twoBlocks() impl.Graph {
	isBetween := func(edge [2]int) bool { return edge[0] < 4 && edge[1] >= 4 }
	return impl.Graph{Size: 8, Edges: slices.DeleteFunc(pairsOf(8), isBetween)}
}

// smallGraphs returns all Graphs of at most 4 nodes.
func smallGraphs() []impl.Graph {
	return slices.DeleteFunc(graphsOf(4), func(g impl.Graph) bool { return g.Size > 4 })
}

// greatGraphs returns Graphs of all sorts that have more nodes.
func greatGraphs() []impl.Graph {
	return []impl.Graph{
		parted(), twoTriangles(), rowOf(8), cycleOf(5), cycleOf(6), cycleOf(8), starOf(8), twoSides(4), twoBlocks(), cube(),
		{Size: 8}, complete(8), {Size: 8, Edges: pairsOf(8)[1:]}, {Size: 8, Edges: [][2]int{{0, 7}, {2, 5}}},
		{Size: 7, Edges: [][2]int{{0, 1}, {0, 4}, {1, 2}, {2, 6}, {3, 5}, {4, 6}}},
	}
}

func kindGraphs() []impl.Graph { return append(graphsOf(4), greatGraphs()...) }

func TestHasKindAndIsTightSet(t *testing.T) {
	for _, kind := range allKinds {
		counts := map[[2]bool]int{}
		for _, g := range append(kindGraphs(), graphsOf(5)...) {
			for digits := range 1 << g.Size {
				set := setOf(digits)
				want := hasKind(g, kind, digits)
				if has, ok := impl.HasKind(g, kind, set); !ok || has != want {
					t.Fatal("has", g, kind, set, has, ok)
				}
				tight := want && isTight(g, kind, digits)
				if is, ok := impl.IsTightSet(g, kind, set); ok != want || is != tight {
					t.Fatal("tight", g, kind, set, is, ok)
				}
				counts[[2]bool{want, tight}]++
			}
		}
		if counts[[2]bool{false, false}] < 1000 || counts[[2]bool{true, false}] < 1000 || counts[[2]bool{true, true}] < 1000 {
			t.Error("too few of a sort", kind, counts)
		}
	}
}

func TestKindsOfExamples(t *testing.T) {
	row, alone := rowOf(5), impl.Graph{Size: 3, Edges: [][2]int{{0, 1}}}
	for _, c := range []struct {
		g          impl.Graph
		kind       int
		set        []int
		has, tight bool
	}{
		{row, impl.KindCover, []int{1, 3}, true, true}, {row, impl.KindCover, []int{0, 2, 4}, true, true},
		{row, impl.KindCover, []int{1, 2, 3}, true, false}, {row, impl.KindCover, []int{0, 3}, false, false},
		{row, impl.KindCover, []int{0, 1, 2, 3, 4}, true, false}, {row, impl.KindCover, nil, false, false},
		{row, impl.KindClique, nil, true, false}, {row, impl.KindClique, []int{2}, true, false},
		{row, impl.KindClique, []int{2, 3}, true, true}, {row, impl.KindClique, []int{1, 3}, false, false},
		{row, impl.KindClique, []int{0, 1, 2}, false, false}, {row, impl.KindClique, []int{0, 1, 2, 3, 4}, false, false},
		{row, impl.KindDominates, []int{0, 3}, true, true}, {row, impl.KindDominates, []int{0, 2, 4}, true, true},
		{row, impl.KindDominates, []int{1, 2, 4}, true, false}, {row, impl.KindDominates, []int{0, 2}, false, false},
		{row, impl.KindDominates, nil, false, false}, {row, impl.KindDominates, []int{0, 1, 2, 3, 4}, true, false},
		{alone, impl.KindCover, []int{0}, true, true}, {alone, impl.KindCover, []int{0, 2}, true, false}, {alone, impl.KindCover, []int{2}, false, false},
		{alone, impl.KindClique, []int{2}, true, true}, {alone, impl.KindClique, []int{0}, true, false}, {alone, impl.KindClique, []int{0, 2}, false, false},
		{alone, impl.KindDominates, []int{0}, false, false}, {alone, impl.KindDominates, []int{0, 2}, true, true}, {alone, impl.KindDominates, []int{0, 1, 2}, true, false},
		{impl.Graph{}, impl.KindCover, nil, true, true}, {impl.Graph{}, impl.KindClique, []int{}, true, true}, {impl.Graph{}, impl.KindDominates, nil, true, true},
		{impl.Graph{Size: 1}, impl.KindCover, nil, true, true}, {impl.Graph{Size: 1}, impl.KindCover, []int{0}, true, false},
		{impl.Graph{Size: 1}, impl.KindClique, nil, true, false}, {impl.Graph{Size: 1}, impl.KindClique, []int{0}, true, true},
		{impl.Graph{Size: 1}, impl.KindDominates, nil, false, false}, {impl.Graph{Size: 1}, impl.KindDominates, []int{0}, true, true},
		{impl.Graph{Size: 8}, impl.KindCover, nil, true, true}, {impl.Graph{Size: 8}, impl.KindDominates, setOf(254), false, false},
		{impl.Graph{Size: 8}, impl.KindDominates, setOf(255), true, true}, {impl.Graph{Size: 8}, impl.KindClique, []int{0, 7}, false, false},
		{complete(8), impl.KindClique, setOf(255), true, true}, {complete(8), impl.KindClique, setOf(254), true, false},
		{complete(8), impl.KindCover, setOf(254), true, true}, {complete(8), impl.KindCover, setOf(252), false, false},
		{complete(8), impl.KindCover, setOf(255), true, false}, {complete(8), impl.KindDominates, []int{7}, true, true},
		{complete(8), impl.KindDominates, nil, false, false},
	} {
		has, one := impl.HasKind(c.g, c.kind, c.set)
		tight, two := impl.IsTightSet(c.g, c.kind, c.set)
		if !one || two != c.has || has != c.has || tight != c.tight {
			t.Error("kind", c, has, one, tight, two)
		}
	}
}

func TestBestOfKindAndTightSets(t *testing.T) {
	for _, g := range kindGraphs() {
		for _, kind := range allKinds {
			best := slices.MinFunc(kindSets(g, kind, 0, g.Size), compareSets)
			if kind == impl.KindClique {
				for _, set := range kindSets(g, kind, 0, g.Size) {
					if len(set) > len(best) || len(set) == len(best) && slices.Compare(set, best) < 0 {
						best = set
					}
				}
			}
			if set, ok := impl.BestOfKind(g, kind); !ok || !slices.Equal(set, best) {
				t.Fatal("best", g, kind, set, ok, best)
			}
			want := tightSets(g, kind)
			if sets, ok := impl.TightSets(g, kind); !ok || !sameLists(sets, want) {
				t.Fatal("tight", g, kind, sets, ok, want)
			}
		}
	}
}

// TestTightSetsOfExamples has ties: several best sets, and tight sets with the same numbers of
// nodes; those with fewer nodes come first, even if they are greater as lists.
func TestTightSetsOfExamples(t *testing.T) {
	singles := [][]int{{0}, {1}, {2}, {3}, {4}, {5}, {6}, {7}}
	allButOne := [][]int{}
	for node := 7; node >= 0; node-- {
		allButOne = append(allButOne, setOf(255^1<<node))
	}
	for _, c := range []struct {
		g     impl.Graph
		kind  int
		best  []int
		tight [][]int
	}{
		{rowOf(5), impl.KindCover, []int{1, 3}, [][]int{{1, 3}, {0, 2, 3}, {0, 2, 4}, {1, 2, 4}}},
		{rowOf(5), impl.KindClique, []int{0, 1}, [][]int{{0, 1}, {1, 2}, {2, 3}, {3, 4}}},
		{rowOf(5), impl.KindDominates, []int{0, 3}, [][]int{{0, 3}, {1, 3}, {1, 4}, {0, 2, 4}}},
		{cycleOf(4), impl.KindCover, []int{0, 2}, [][]int{{0, 2}, {1, 3}}},
		{cycleOf(4), impl.KindClique, []int{0, 1}, [][]int{{0, 1}, {0, 3}, {1, 2}, {2, 3}}},
		{cycleOf(4), impl.KindDominates, []int{0, 1}, [][]int{{0, 1}, {0, 2}, {0, 3}, {1, 2}, {1, 3}, {2, 3}}},
		{starOf(4), impl.KindCover, []int{0}, [][]int{{0}, {1, 2, 3}}},
		{starOf(4), impl.KindDominates, []int{0}, [][]int{{0}, {1, 2, 3}}},
		{parted(), impl.KindCover, []int{0, 2}, [][]int{{0, 2}, {0, 3}, {1, 2}, {1, 3}}},
		{parted(), impl.KindClique, []int{0, 1}, [][]int{{4}, {0, 1}, {2, 3}}},
		{parted(), impl.KindDominates, []int{0, 2, 4}, [][]int{{0, 2, 4}, {0, 3, 4}, {1, 2, 4}, {1, 3, 4}}},
		{twoTriangles(), impl.KindClique, []int{0, 1, 2}, [][]int{{5}, {0, 1, 2}, {2, 3, 4}}},
		{twoTriangles(), impl.KindDominates, []int{2, 5}, [][]int{{2, 5}, {0, 3, 5}, {0, 4, 5}, {1, 3, 5}, {1, 4, 5}}},
		{impl.Graph{}, impl.KindCover, nil, [][]int{{}}}, {impl.Graph{}, impl.KindClique, nil, [][]int{{}}}, {impl.Graph{}, impl.KindDominates, nil, [][]int{{}}},
		{impl.Graph{Size: 1}, impl.KindCover, nil, [][]int{{}}}, {impl.Graph{Size: 1}, impl.KindClique, []int{0}, [][]int{{0}}},
		{impl.Graph{Size: 1}, impl.KindDominates, []int{0}, [][]int{{0}}},
		{impl.Graph{Size: 8}, impl.KindCover, nil, [][]int{{}}}, {impl.Graph{Size: 8}, impl.KindClique, []int{0}, singles},
		{impl.Graph{Size: 8}, impl.KindDominates, setOf(255), [][]int{setOf(255)}},
		{complete(8), impl.KindCover, setOf(127), allButOne}, {complete(8), impl.KindClique, setOf(255), [][]int{setOf(255)}},
		{complete(8), impl.KindDominates, []int{0}, singles},
	} {
		best, one := impl.BestOfKind(c.g, c.kind)
		tight, two := impl.TightSets(c.g, c.kind)
		if !one || !two || !slices.Equal(best, c.best) || !sameLists(tight, c.tight) {
			t.Error("sets", c, best, tight)
		}
	}
}

func TestOtherNodesAndCliqueGraph(t *testing.T) {
	for _, g := range append(kindGraphs(), graphsOf(5)...) {
		h, ok := impl.CliqueGraph(g)
		want := slices.DeleteFunc(pairsOf(g.Size), func(pair [2]int) bool { return slices.Contains(g.Edges, pair) })
		if !ok || !sameGraph(h, impl.Graph{Size: g.Size, Edges: want}) {
			t.Fatal("Graph", g, h, ok)
		}
		if back, ok := impl.CliqueGraph(h); !ok || !sameGraph(back, g) {
			t.Fatal("and back", g, h, back, ok)
		}
		for digits := range 1 << g.Size {
			set := setOf(digits)
			others, ok := impl.OtherNodes(g, set)
			if !ok || !slices.Equal(others, setOf(1<<g.Size-1-digits)) {
				t.Fatal("others", g, set, others, ok)
			}
			isCover, one := impl.HasKind(h, impl.KindCover, set)
			isClique, two := impl.HasKind(g, impl.KindClique, others)
			if !one || !two || isCover != isClique || isClique != hasKind(g, impl.KindClique, digitsFor(others)) {
				t.Fatal("cover and clique", g, set, isCover, isClique)
			}
		}
	}
}

// greedyTight goes on with the list of nodes itself.
func greedyTight(g impl.Graph, kind int, set []int) []int {
	for node := range g.Size {
		next := slices.DeleteFunc(slices.Clone(set), func(x int) bool { return x == node })
		if kind == impl.KindClique {
			next = append(next, node)
			slices.Sort(next)
			next = slices.Compact(next)
		}
		if hasKind(g, kind, digitsFor(next)) {
			set = next
		}
	}
	return set
}

func TestGreedyTightAndKindWays(t *testing.T) {
	for _, g := range kindGraphs() {
		for _, kind := range allKinds {
			for _, set := range kindSets(g, kind, 0, g.Size) {
				tight, ok := impl.GreedyTight(g, kind, set)
				if !ok || !slices.Equal(tight, greedyTight(g, kind, set)) || !isTight(g, kind, digitsFor(tight)) {
					t.Fatal("greedy", g, kind, set, tight, ok)
				}
				want := []int{}
				for node := range g.Size {
					if hasKind(g, kind, digitsFor(set)^1<<node) {
						want = append(want, node)
					}
				}
				if nodes, ok := impl.KindWays(g, kind, set); !ok || !slices.Equal(nodes, want) {
					t.Fatal("ways", g, kind, set, nodes, ok)
				}
			}
		}
	}
}

// TestKindWaysAreSteps looks at the threshold space that has all sets of a kind.
func TestKindWaysAreSteps(t *testing.T) {
	for _, g := range append(smallGraphs(), parted(), twoTriangles(), rowOf(6), complete(5)) {
		for kind, k := range map[int]int{impl.KindCover: g.Size, impl.KindClique: 0, impl.KindDominates: g.Size} {
			x, ok := impl.ThresholdSpace(g, kind, k)
			if !ok || len(x.States) != len(kindSets(g, kind, 0, g.Size)) {
				t.Fatal("not all sets", g, kind, k, x)
			}
			for place, set := range x.States {
				steps, _ := impl.StepsFrom(x, place)
				want := []int{}
				for _, next := range steps {
					want = append(want, apart(set, x.States[next])...)
				}
				slices.Sort(want)
				if nodes, ok := impl.KindWays(g, kind, set); !ok || !slices.Equal(nodes, want) {
					t.Fatal("ways", g, kind, set, nodes, ok, want)
				}
			}
		}
	}
}

func TestGreedyTightAndKindWaysOfExamples(t *testing.T) {
	for _, c := range []struct {
		g                impl.Graph
		kind             int
		set, tight, ways []int
	}{
		{rowOf(5), impl.KindCover, setOf(31), []int{1, 3}, []int{0, 1, 2, 3, 4}},
		{rowOf(5), impl.KindCover, []int{0, 1, 2, 4}, []int{1, 2, 4}, []int{0, 1, 3}},
		{rowOf(5), impl.KindCover, []int{1, 3}, []int{1, 3}, []int{0, 2, 4}},
		{rowOf(5), impl.KindClique, nil, []int{0, 1}, []int{0, 1, 2, 3, 4}},
		{rowOf(5), impl.KindClique, []int{3}, []int{2, 3}, []int{2, 3, 4}},
		{rowOf(5), impl.KindClique, []int{3, 4}, []int{3, 4}, []int{3, 4}},
		{rowOf(5), impl.KindDominates, setOf(31), []int{1, 4}, []int{0, 1, 2, 3, 4}},
		{rowOf(5), impl.KindDominates, []int{0, 1, 3}, []int{1, 3}, []int{0, 1, 2, 4}},
		{rowOf(5), impl.KindDominates, []int{0, 2, 4}, []int{0, 2, 4}, []int{1, 3}},
		{starOf(4), impl.KindCover, setOf(15), []int{1, 2, 3}, []int{0, 1, 2, 3}},
		{starOf(4), impl.KindDominates, []int{0, 1, 2}, []int{0}, []int{1, 2, 3}},
		{twoTriangles(), impl.KindClique, []int{2}, []int{0, 1, 2}, []int{0, 1, 2, 3, 4}},
		{twoTriangles(), impl.KindClique, []int{4}, []int{2, 3, 4}, []int{2, 3, 4}},
		{twoTriangles(), impl.KindClique, []int{5}, []int{5}, []int{5}},
		{impl.Graph{}, impl.KindCover, nil, nil, nil}, {impl.Graph{}, impl.KindClique, nil, nil, nil}, {impl.Graph{}, impl.KindDominates, nil, nil, nil},
		{impl.Graph{Size: 1}, impl.KindCover, []int{0}, nil, []int{0}}, {impl.Graph{Size: 1}, impl.KindClique, nil, []int{0}, []int{0}},
		{impl.Graph{Size: 1}, impl.KindDominates, []int{0}, []int{0}, nil},
		{impl.Graph{Size: 8}, impl.KindCover, setOf(255), nil, setOf(255)}, {impl.Graph{Size: 8}, impl.KindClique, nil, []int{0}, setOf(255)},
		{impl.Graph{Size: 8}, impl.KindClique, []int{5}, []int{5}, []int{5}}, {impl.Graph{Size: 8}, impl.KindDominates, setOf(255), setOf(255), nil},
		{complete(8), impl.KindCover, setOf(255), setOf(254), setOf(255)}, {complete(8), impl.KindCover, setOf(253), setOf(253), []int{1}},
		{complete(8), impl.KindClique, []int{3}, setOf(255), setOf(255)}, {complete(8), impl.KindDominates, setOf(255), []int{7}, setOf(255)},
		{complete(8), impl.KindDominates, []int{2}, []int{2}, []int{0, 1, 3, 4, 5, 6, 7}},
	} {
		tight, one := impl.GreedyTight(c.g, c.kind, c.set)
		ways, two := impl.KindWays(c.g, c.kind, c.set)
		if !one || !two || !slices.Equal(tight, c.tight) || !slices.Equal(ways, c.ways) {
			t.Error("greedy", c, tight, ways)
		}
	}
}

func TestWideNumber(t *testing.T) {
	for _, g := range kindGraphs() {
		for _, kind := range allKinds {
			tight := tightSets(g, kind)
			least, most := len(tight[0]), len(tight[len(tight)-1])
			want := min(g.Size, least+most)
			if kind == impl.KindClique {
				want = max(0, least+most-g.Size)
			}
			wide, ok := impl.WideNumber(g, kind)
			if !ok || wide != want {
				t.Fatal("wide", g, kind, wide, ok, want)
			}
			x, one := impl.ThresholdSpace(g, kind, wide)
			parts, two := impl.PartsOf(x)
			if !one || !two || len(parts) != 1 {
				t.Fatal("several parts", g, kind, wide, parts)
			}
		}
	}
}

func TestWideNumberOfExamples(t *testing.T) {
	for _, c := range []struct {
		g    impl.Graph
		want [3]int
	}{
		{rowOf(3), [3]int{3, 1, 3}}, {rowOf(5), [3]int{5, 0, 5}}, {starOf(4), [3]int{4, 0, 4}}, {cycleOf(4), [3]int{4, 0, 4}},
		{parted(), [3]int{4, 0, 5}}, {twoTriangles(), [3]int{6, 0, 5}}, {complete(8), [3]int{8, 8, 2}}, {complete(2), [3]int{2, 2, 2}},
		{impl.Graph{}, [3]int{0, 0, 0}}, {impl.Graph{Size: 1}, [3]int{0, 1, 1}}, {impl.Graph{Size: 8}, [3]int{0, 0, 8}},
		{impl.Graph{Size: 4, Edges: pairsOf(4)[1:]}, [3]int{4, 2, 3}}, {impl.Graph{Size: 8, Edges: [][2]int{{0, 1}}}, [3]int{2, 0, 8}},
	} {
		for at, kind := range allKinds {
			if wide, ok := impl.WideNumber(c.g, kind); !ok || wide != c.want[at] {
				t.Error("wide", c, kind, wide, ok)
			}
		}
	}
}
