package tests

import (
	"math/rand"
	"slices"
	"testing"

	"loop.example/g01128/impl"
)

// isForest takes away nodes with at most one neighbor, until there are no others: what is left
// has a cycle.
func isForest(g impl.Graph) bool {
	left := setOf(1<<g.Size - 1)
	for {
		at := slices.IndexFunc(left, func(x int) bool {
			near := 0
			for _, y := range left {
				if hasEdge(g, x, y) {
					near++
				}
			}
			return near <= 1
		})
		if at < 0 {
			return len(left) == 0
		}
		left = slices.Delete(left, at, at+1)
	}
}

// forestsOf returns all forests of at most most nodes.
func forestsOf(most int) []impl.Graph {
	forests := []impl.Graph{}
	for size := range most + 1 {
		pairs := pairsOf(size)
		for digits := range 1 << len(pairs) {
			if g := (impl.Graph{Size: size, Edges: chosen(pairs, digits)}); len(g.Edges) < max(size, 1) && isForest(g) {
				forests = append(forests, g)
			}
		}
	}
	return forests
}

// randomForests returns forests of 7 and 8 nodes: each node but the first one may have an edge to
// one before it, in an order of their own. A third of them are trees.
func randomForests(number int) []impl.Graph {
	random := rand.New(rand.NewSource(7))
	forests := []impl.Graph{}
	for range number {
		g := impl.Graph{Size: 7 + random.Intn(2)}
		order := random.Perm(g.Size)
		gaps := random.Intn(3)
		for k := 1; k < g.Size; k++ {
			if random.Intn(8) < gaps {
				continue
			}
			a, b := order[k], order[random.Intn(k)]
			g.Edges = append(g.Edges, [2]int{min(a, b), max(a, b)})
		}
		slices.SortFunc(g.Edges, func(a, b [2]int) int { return slices.Compare(a[:], b[:]) })
		forests = append(forests, g)
	}
	return forests
}

// slidesFrom moves each token, and does not compare sets as the program does.
func slidesFrom(g impl.Graph, set int) []int {
	moved := []int{}
	for x := range g.Size {
		for y := range g.Size {
			next := set&^(1<<x) | 1<<y
			if set>>x&1 == 1 && set>>y&1 == 0 && hasEdge(g, x, y) && !hasEdgeInside(g, next) {
				moved = append(moved, next)
			}
		}
	}
	return moved
}

// slideParts returns, for each independent set as digits, a number of its own for all sets to
// which there is a walk of slides, and what all these have in common.
func slideParts(g impl.Graph) (map[int]int, map[int]int) {
	parts, common := map[int]int{}, map[int]int{}
	for _, set := range independentIn(g, 0, g.Size) {
		first := digitsFor(set)
		if _, found := parts[first]; found {
			continue
		}
		number := len(common)
		common[number] = first
		parts[first] = number
		for work := []int{first}; len(work) > 0; work = work[1:] {
			common[number] &= work[0]
			for _, next := range slidesFrom(g, work[0]) {
				if _, found := parts[next]; !found {
					parts[next] = number
					work = append(work, next)
				}
			}
		}
	}
	return parts, common
}

func someForests() []impl.Graph {
	return slices.Concat(forestsOf(5), randomForests(150), []impl.Graph{{Size: 8}, rowOf(8), starOf(8), parted()})
}

func TestLockedTokens(t *testing.T) {
	for _, g := range slices.Concat(graphsOf(5), []impl.Graph{rowOf(8), cycleOf(8), starOf(8), parted()}) {
		parts, common := slideParts(g)
		for _, set := range independentIn(g, 0, g.Size) {
			want := setOf(common[parts[digitsFor(set)]])
			if locked, ok := impl.LockedTokens(g, set); !ok || !slices.Equal(locked, want) {
				t.Fatal("locked", g, set, locked, ok, want)
			}
		}
	}
}

// TestForestRules compares both rules with what a search tells.
func TestForestRules(t *testing.T) {
	meeting, not, some := 0, 0, 0
	for _, g := range someForests() {
		parts, common := slideParts(g)
		sets := independentIn(g, 0, g.Size)
		for _, a := range sets {
			want := setOf(common[parts[digitsFor(a)]])
			if locked, ok := impl.ForestLocked(g, a); !ok || !slices.Equal(locked, want) {
				t.Fatal("locked", g, a, locked, ok, want)
			}
			if len(want) > 0 && len(want) < len(a) {
				some++
			}
			for _, b := range sets {
				if len(a) != len(b) {
					continue
				}
				there := parts[digitsFor(a)] == parts[digitsFor(b)]
				if meets, ok := impl.ForestMeets(g, a, b); !ok || meets != there {
					t.Fatal("meets", g, a, b, meets, ok, there)
				}
				if there {
					meeting++
				} else {
					not++
				}
			}
		}
	}
	if meeting < 10000 || not < 10000 || some < 1000 {
		t.Error("too few of a sort", meeting, not, some)
	}
}

func TestForestRulesForAllForestsOfSixNodes(t *testing.T) {
	forests := forestsOf(6)
	if len(forests) != 1+1+2+7+38+291+2932 {
		t.Fatal("forests", len(forests))
	}
	for _, g := range forests[len(forests)-2932:] {
		parts, _ := slideParts(g)
		sets := independentIn(g, 0, g.Size)
		for k, a := range sets {
			for _, b := range sets[k:] {
				there := parts[digitsFor(a)] == parts[digitsFor(b)]
				if meets, ok := impl.ForestMeets(g, a, b); ok != (len(a) == len(b)) || meets != there {
					t.Fatal("meets", g, a, b, meets, ok, there)
				}
			}
		}
	}
}

// TestTheMeetingRuleTellsWhetherThereIsAWalkOfSlides holds the rule against SlideWalk itself.
func TestTheMeetingRuleTellsWhetherThereIsAWalkOfSlides(t *testing.T) {
	for _, g := range append(forestsOf(4), append(randomForests(12), rowOf(8), starOf(8), parted())...) {
		for k := range g.Size + 1 {
			sets := independentIn(g, k, k)
			for _, a := range sets {
				for _, b := range sets[:min(len(sets), 12)] {
					_, there := impl.SlideWalk(g, a, b)
					if meets, ok := impl.ForestMeets(g, a, b); !ok || meets != there {
						t.Fatal("meets", g, a, b, meets, ok, there)
					}
				}
			}
		}
	}
}

func TestForestRulesFailForGraphsWithACycle(t *testing.T) {
	forests, others := 0, 0
	for _, g := range append(graphsOf(5), cycleOf(3), cycleOf(4), cycleOf(7), cycleOf(8)) {
		is := isForest(g)
		for _, set := range independentIn(g, 0, min(g.Size, 2)) {
			calls := []aCall{
				{"ForestLocked", impl.ForestLocked, []any{g, set}},
				{"ForestMeets", impl.ForestMeets, []any{g, set, set}},
			}
			for _, c := range calls {
				if is && !c.succeeds() || !is && !c.fails() {
					t.Fatal("forest", is, g, set, c.name)
				}
			}
		}
		if is {
			forests++
		} else {
			others++
		}
	}
	if forests < 300 || others < 300 {
		t.Error("too few of a sort", forests, others)
	}
	// There are no more edges than in a forest, but a cycle beside nodes alone.
	g := impl.Graph{Size: 8, Edges: [][2]int{{0, 1}, {0, 2}, {1, 2}, {4, 5}}}
	if c := (aCall{"ForestLocked", impl.ForestLocked, []any{g, []int{3}}}); !c.fails() {
		t.Error("a cycle in one part")
	}
}

// TestLockedTokensOfExamples: in a forest, both functions return the same.
func TestLockedTokensOfExamples(t *testing.T) {
	trees := impl.Graph{Size: 8, Edges: [][2]int{{0, 1}, {1, 2}, {3, 4}, {4, 5}, {5, 6}}} // and the node 7
	for _, c := range []struct {
		g         impl.Graph
		set, want []int
	}{
		{rowOf(3), []int{0, 2}, []int{0, 2}}, {rowOf(3), []int{0}, nil}, {rowOf(3), []int{1}, nil},
		{impl.Graph{Size: 1}, []int{0}, []int{0}}, {impl.Graph{Size: 8}, []int{0, 3, 7}, []int{0, 3, 7}},
		{rowOf(2), []int{0}, nil}, {rowOf(4), []int{0, 2}, nil}, {rowOf(4), []int{0, 3}, nil},
		{rowOf(5), []int{0, 2, 4}, []int{0, 2, 4}}, {rowOf(5), []int{0, 2}, nil}, {rowOf(5), []int{0, 4}, nil},
		{rowOf(7), []int{0, 2, 4, 6}, []int{0, 2, 4, 6}}, {rowOf(7), []int{0, 2, 6}, nil},
		{starOf(8), []int{1, 2}, []int{1, 2}}, {starOf(8), []int{5}, nil}, {starOf(8), []int{0}, nil},
		{starOf(8), []int{1, 2, 3, 4, 5, 6, 7}, []int{1, 2, 3, 4, 5, 6, 7}},
		{trees, []int{0, 2, 3, 5}, []int{0, 2}}, {trees, []int{0, 3, 7}, []int{7}}, {trees, []int{0, 2, 4, 7}, []int{0, 2, 7}},
		{trees, []int{1, 4, 6, 7}, []int{7}},
	} {
		locked, one := impl.LockedTokens(c.g, c.set)
		told, two := impl.ForestLocked(c.g, c.set)
		if !one || !two || !slices.Equal(locked, c.want) || !slices.Equal(told, c.want) {
			t.Error("locked", c, locked, told)
		}
	}
	for _, c := range []struct {
		g         impl.Graph
		set, want []int
	}{
		{cycleOf(4), []int{0, 2}, []int{0, 2}}, {cycleOf(4), []int{1}, nil}, {cycleOf(5), []int{0, 2}, nil},
		{cycleOf(6), []int{0, 2, 4}, []int{0, 2, 4}}, {cycleOf(8), []int{0, 3, 6}, nil}, {impl.Graph{Size: 8, Edges: pairsOf(8)}, []int{7}, nil},
	} {
		if locked, ok := impl.LockedTokens(c.g, c.set); !ok || !slices.Equal(locked, c.want) {
			t.Error("locked", c, locked, ok)
		}
	}
}

func TestForestMeetsOfExamples(t *testing.T) {
	trees := impl.Graph{Size: 8, Edges: [][2]int{{0, 1}, {1, 2}, {3, 4}, {4, 5}, {5, 6}}} // and the node 7
	// Three legs of two nodes each begin at the node 0.
	spider := impl.Graph{Size: 7, Edges: [][2]int{{0, 1}, {0, 3}, {0, 5}, {1, 2}, {3, 4}, {5, 6}}}
	for _, c := range []struct {
		g    impl.Graph
		a, b []int
		want bool
	}{
		{rowOf(3), []int{0}, []int{2}, true}, {rowOf(4), []int{0, 2}, []int{1, 3}, true}, {rowOf(5), []int{0, 2, 4}, []int{0, 2, 4}, true},
		{rowOf(6), []int{0, 2, 4}, []int{1, 3, 5}, true}, {starOf(5), []int{1, 2}, []int{1, 3}, false}, {starOf(5), []int{1}, []int{4}, true},
		{impl.Graph{Size: 8}, []int{0}, []int{1}, false}, {impl.Graph{Size: 8}, []int{0, 7}, []int{0, 7}, true},
		{trees, []int{0, 3}, []int{2, 6}, true}, {trees, []int{0, 3}, []int{3, 6}, false}, {trees, []int{0, 3, 7}, []int{1, 5, 7}, true},
		{trees, []int{0, 2, 3}, []int{0, 2, 6}, true}, {trees, []int{0, 2, 3}, []int{0, 3, 6}, false}, {trees, []int{0, 7}, []int{1, 3}, false},
		{spider, []int{2, 4, 6}, []int{0, 2, 4}, true}, {spider, []int{1, 3}, []int{3, 5}, true}, {spider, []int{1, 3, 5}, []int{2, 4, 6}, true},
	} {
		forth, one := impl.ForestMeets(c.g, c.a, c.b)
		back, two := impl.ForestMeets(c.g, c.b, c.a)
		if !one || !two || forth != c.want || back != c.want {
			t.Error("meets", c, forth, back)
		}
	}
}

func TestStuckSets(t *testing.T) {
	for _, g := range append(graphsOf(5), rowOf(8), cycleOf(8), starOf(8), parted()) {
		for k := range impl.MaxNodes + 1 {
			want := [][]int{}
			for _, set := range independentIn(g, k, k) {
				if len(slidesFrom(g, digitsFor(set))) == 0 {
					want = append(want, set)
				}
			}
			if sets, ok := impl.StuckSets(g, k); !ok || !sameLists(sets, want) {
				t.Fatal("stuck", g, k, sets, ok, want)
			}
		}
	}
}
