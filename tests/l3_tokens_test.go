package tests

import (
	"math"
	"math/bits"
	"slices"
	"testing"

	"loop.example/g01128/impl"
)

// setOf returns the nodes at whose places the binary digits of a number are 1.
func setOf(digits int) []int {
	set := []int{}
	for node := range impl.MaxNodes {
		if digits>>node&1 == 1 {
			set = append(set, node)
		}
	}
	return set
}

func digitsFor(set []int) int {
	digits := 0
	for _, node := range set {
		digits |= 1 << node
	}
	return digits
}

func hasEdge(g impl.Graph, x int, y int) bool {
	return slices.Contains(g.Edges, [2]int{min(x, y), max(x, y)})
}

// hasEdgeInside reports whether a set, as digits, has both nodes of an edge.
func hasEdgeInside(g impl.Graph, digits int) bool {
	return slices.ContainsFunc(g.Edges, func(edge [2]int) bool { return (digits>>edge[0])&(digits>>edge[1])&1 == 1 })
}

// independentIn looks at all sets of nodes, and returns those of least..most nodes without an
// edge, in lexicographic order.
func independentIn(g impl.Graph, least int, most int) [][]int {
	sets := [][]int{}
	for digits := range 1 << g.Size {
		if n := bits.OnesCount(uint(digits)); least <= n && n <= most && !hasEdgeInside(g, digits) {
			sets = append(sets, setOf(digits))
		}
	}
	slices.SortFunc(sets, slices.Compare[[]int])
	return sets
}

// apart returns the nodes that only one of two sets has.
func apart(a []int, b []int) []int { return setOf(digitsFor(a) ^ digitsFor(b)) }

func spaceOf(sets [][]int, differ func(apart []int) bool) impl.Space {
	return impl.Space{States: sets, Steps: stepsWhere(len(sets), func(i int, j int) bool { return differ(apart(sets[i], sets[j])) })}
}

func slideSpace(g impl.Graph, k int) impl.Space {
	return spaceOf(independentIn(g, k, k), func(apart []int) bool { return len(apart) == 2 && hasEdge(g, apart[0], apart[1]) })
}

func jumpSpace(g impl.Graph, k int) impl.Space {
	return spaceOf(independentIn(g, k, k), func(apart []int) bool { return len(apart) == 2 })
}

func addSpace(g impl.Graph, least int) impl.Space {
	return spaceOf(independentIn(g, least, g.Size), func(apart []int) bool { return len(apart) == 1 })
}

// farNumbers are no numbers of nodes.
var farNumbers = []int{-1, impl.MaxNodes + 1, -impl.MaxNodes, 2 * impl.MaxNodes, math.MinInt, math.MaxInt}

// badSets returns lists that are no independent sets of parted, most of them for one reason.
func badSets() [][]int {
	return [][]int{
		{1, 0}, {2, 0}, {4, 2, 0}, {0, 4, 2}, {2, 0, 4}, // out of order
		{0, 0}, {4, 4}, {0, 2, 2}, {0, 0, 4}, {0, 2, 0}, // twice
		{-1}, {5}, {-1, 0}, {0, 5}, {0, 2, 5}, {-1, 2, 4}, {5, 6}, {math.MinInt}, {math.MaxInt}, {math.MinInt, math.MaxInt}, // no nodes
		{0, 1}, {2, 3}, {0, 1, 4}, {0, 2, 3}, {0, 1, 2, 3, 4}, // neighbors
		{0, 2, 4, 4}, {0, 1, 2, 3, 4, 5, 6, 7}, {0, 1, 2, 3, 4, 5, 6, 7, 8}, make([]int, 1000),
	}
}

// parted has three parts, one of them a node alone.
func parted() impl.Graph { return impl.Graph{Size: 5, Edges: [][2]int{{0, 1}, {2, 3}}} }

func cycleOf(n int) impl.Graph {
	g := impl.Graph{Size: n, Edges: [][2]int{{0, 1}, {0, n - 1}}}
	for x := 1; x < n-1; x++ {
		g.Edges = append(g.Edges, [2]int{x, x + 1})
	}
	return g
}

func rowOf(n int) impl.Graph {
	g := impl.Graph{Size: n}
	for x := range n - 1 {
		g.Edges = append(g.Edges, [2]int{x, x + 1})
	}
	return g
}

func starOf(n int) impl.Graph {
	g := impl.Graph{Size: n}
	for x := 1; x < n; x++ {
		g.Edges = append(g.Edges, [2]int{0, x})
	}
	return g
}

// numberCalls returns a call of each function with a number, and with sets that are valid.
func numberCalls(g impl.Graph, k int) []aCall {
	return []aCall{
		{"IndependentSets", impl.IndependentSets, []any{g, k}},
		{"SlideSpace", impl.SlideSpace, []any{g, k}},
		{"JumpSpace", impl.JumpSpace, []any{g, k}},
		{"AddSpace", impl.AddSpace, []any{g, k}},
		{"StuckSets", impl.StuckSets, []any{g, k}},
	}
}

// setCalls returns a call of each function with sets, but for IsIndependent.
func setCalls(g impl.Graph, a []int, b []int) []aCall {
	return []aCall{
		{"SlideWalk", impl.SlideWalk, []any{g, a, b}},
		{"JumpWalk", impl.JumpWalk, []any{g, a, b}},
		{"AddWalk", impl.AddWalk, []any{g, 0, a, b}},
		{"TokenBound", impl.TokenBound, []any{g, a, b}},
		{"ForestMeets", impl.ForestMeets, []any{g, a, b}},
		{"LockedTokens", impl.LockedTokens, []any{g, a}},
		{"ForestLocked", impl.ForestLocked, []any{g, a}},
	}
}

func tokenCalls(g impl.Graph, k int, a []int, b []int) []aCall {
	return append(append(numberCalls(g, k), setCalls(g, a, b)...),
		aCall{"IsIndependent", impl.IsIndependent, []any{g, a}},
		aCall{"IndependenceNumber", impl.IndependenceNumber, []any{g}})
}

func TestFunctionsOfTokensFailForOtherGraphs(t *testing.T) {
	for _, g := range badGraphs() {
		for _, set := range [][]int{{}, {0}, {3}, {0, 2}, {1, 0}, {-1}} {
			for _, k := range []int{0, 1, len(set), impl.MaxNodes, -1} {
				for _, c := range tokenCalls(g, k, set, set) {
					if !c.fails() {
						t.Error("no Graph", g, k, set, c.name)
					}
				}
			}
		}
	}
}

// TestFunctionsOfTokensSucceed: without it, tests of failures might pass for wrong reasons.
func TestFunctionsOfTokensSucceed(t *testing.T) {
	for _, g := range []impl.Graph{{}, {Size: 1}, {Size: 8}, parted(), rowOf(4), rowOf(8), starOf(8)} {
		for k := range impl.MaxNodes + 1 {
			sets := independentIn(g, k, k)
			for _, set := range append(sets[:min(len(sets), 3)], []int{}) {
				for _, c := range tokenCalls(g, k, set, set) {
					if !c.succeeds() {
						t.Fatal("valid", g, k, set, c.name)
					}
				}
			}
		}
	}
}

func TestFunctionsOfTokensFailForOtherNumbers(t *testing.T) {
	for _, g := range []impl.Graph{{}, {Size: 1}, {Size: 8}, parted(), rowOf(8), cycleOf(8)} {
		for _, k := range farNumbers {
			calls := append(numberCalls(g, k), aCall{"AddWalk", impl.AddWalk, []any{g, k, []int{}, []int{}}})
			if g.Size > 1 {
				calls = append(calls, aCall{"AddWalk", impl.AddWalk, []any{g, k, []int{0}, []int{1}}})
			}
			for _, c := range calls {
				if !c.fails() {
					t.Error("no number of nodes", g, k, c.name)
				}
			}
		}
	}
}

// TestFunctionsOfTokensFailForOtherSets puts each such list beside itself and beside valid sets,
// of as many nodes where there are some.
func TestFunctionsOfTokensFailForOtherSets(t *testing.T) {
	g := parted()
	for _, set := range badSets() {
		if is, ok := impl.IsIndependent(g, set); is || !ok {
			t.Error("independent", set, is, ok)
		}
		for _, other := range append(independentIn(g, 0, g.Size), set) {
			for _, c := range setCalls(g, set, other) {
				if !c.fails() {
					t.Error("no set", set, other, c.name)
				}
			}
			for _, c := range setCalls(g, other, set)[:5] {
				if !c.fails() {
					t.Error("no set", other, set, c.name)
				}
			}
		}
	}
}

func TestFunctionsOfTokensKeepMemoryApart(t *testing.T) {
	for _, g := range append(graphsOf(3), parted(), rowOf(6), starOf(8), cycleOf(6)) {
		sets := independentIn(g, 0, g.Size)
		if len(sets) > 12 {
			sets = append(sets[:6:6], sets[len(sets)-6:]...)
		}
		for k, a := range sets {
			for _, b := range [][]int{a, sets[(k+1)%len(sets)], sets[(k+2)%len(sets)], {1, 0}} {
				for _, c := range tokenCalls(g, len(a), a, b) {
					checkMemory(t, c)
				}
			}
		}
	}
	for _, g := range append(badGraphs(), parted()) {
		for _, k := range []int{-1, 0, 2, 9} {
			for _, c := range tokenCalls(g, k, []int{0, 2}, []int{2, 1}) {
				checkMemory(t, c)
			}
		}
	}
}

func TestIsIndependent(t *testing.T) {
	for _, g := range append(graphsOf(4), rowOf(8), cycleOf(7), parted()) {
		sets := map[string]bool{}
		for _, set := range independentIn(g, 0, g.Size) {
			sets[textOf(set)] = true
			if is, ok := impl.IsIndependent(g, set); !is || !ok {
				t.Fatal("independent", g, set, is, ok)
			}
		}
		everyList(3, -1, min(g.Size, 5), func(list []int) {
			if is, ok := impl.IsIndependent(g, list); !ok || is != sets[textOf(list)] {
				t.Fatal("independent", g, list, is, ok)
			}
		})
	}
	for _, list := range [][]int{nil, {}} {
		if is, ok := impl.IsIndependent(impl.Graph{}, list); !is || !ok {
			t.Error("no tokens", is, ok)
		}
	}
}

func textOf(list []int) string {
	text := ""
	for _, number := range list {
		text += string(rune('a'+number)) + ","
	}
	return text
}

func TestIndependentSetsAndIndependenceNumber(t *testing.T) {
	for _, g := range graphsOf(5) {
		most := 0
		for k := range impl.MaxNodes + 1 {
			want := independentIn(g, k, k)
			if sets, ok := impl.IndependentSets(g, k); !ok || !sameLists(sets, want) {
				t.Fatal("sets", g, k, sets, ok)
			}
			if len(want) > 0 {
				most = k
			}
		}
		if number, ok := impl.IndependenceNumber(g); !ok || number != most {
			t.Fatal("greatest number", g, number, ok)
		}
	}
}

func TestSpacesOfTokens(t *testing.T) {
	for _, g := range graphsOf(5) {
		for k := range impl.MaxNodes + 1 {
			slides, one := impl.SlideSpace(g, k)
			jumps, two := impl.JumpSpace(g, k)
			adds, three := impl.AddSpace(g, k)
			if !one || !two || !three || !impl.IsSpace(slides) || !impl.IsSpace(jumps) || !impl.IsSpace(adds) {
				t.Fatal("not valid", g, k, one, two, three)
			}
			if !sameSpace(slides, slideSpace(g, k)) || !sameSpace(jumps, jumpSpace(g, k)) || !sameSpace(adds, addSpace(g, k)) {
				t.Fatal("spaces", g, k, slides, jumps, adds)
			}
		}
	}
}

// TestSpacesOfTokensOnTheGreatestGraphs compares numbers that are known.
func TestSpacesOfTokensOnTheGreatestGraphs(t *testing.T) {
	free, full := impl.Graph{Size: 8}, impl.Graph{Size: 8, Edges: pairsOf(8)}
	choices := []int{1, 8, 28, 56, 70, 56, 28, 8, 1}
	for k, choice := range choices {
		slides, _ := impl.SlideSpace(free, k)
		jumps, _ := impl.JumpSpace(free, k)
		if len(slides.States) != choice || len(slides.Steps) != 0 || len(jumps.States) != choice || len(jumps.Steps) != choice*k*(8-k)/2 {
			t.Error("no edges", k, len(slides.States), len(slides.Steps), len(jumps.States), len(jumps.Steps))
		}
		adds, _ := impl.AddSpace(free, k)
		states, steps := 0, 0
		for n := k; n <= 8; n++ {
			states += choices[n]
			steps += choices[n] * (8 - n)
		}
		if len(adds.States) != states || len(adds.Steps) != steps {
			t.Error("no edges", k, len(adds.States), len(adds.Steps))
		}
	}
	slides, _ := impl.SlideSpace(full, 1)
	jumps, _ := impl.JumpSpace(full, 1)
	adds, _ := impl.AddSpace(full, 0)
	if len(slides.Steps) != 28 || len(jumps.Steps) != 28 || len(adds.States) != 9 || len(adds.Steps) != 8 {
		t.Error("all edges", len(slides.Steps), len(jumps.Steps), len(adds.States), len(adds.Steps))
	}
}

func TestGraphWithoutNodes(t *testing.T) {
	g, none := impl.Graph{}, []int{}
	for k := range impl.MaxNodes + 1 {
		sets, one := impl.IndependentSets(g, k)
		slides, two := impl.SlideSpace(g, k)
		jumps, three := impl.JumpSpace(g, k)
		adds, four := impl.AddSpace(g, k)
		stuck, five := impl.StuckSets(g, k)
		if !one || !two || !three || !four || !five {
			t.Error("fails", k, one, two, three, four, five)
		}
		want := [][]int{}
		if k == 0 {
			want = [][]int{{}}
		}
		for _, lists := range [][][]int{sets, slides.States, jumps.States, adds.States, stuck} {
			if !sameLists(lists, want) {
				t.Error("sets", k, lists)
			}
		}
		if len(slides.Steps)+len(jumps.Steps)+len(adds.Steps) != 0 {
			t.Error("steps", k, slides, jumps, adds)
		}
	}
	number, one := impl.IndependenceNumber(g)
	bound, two := impl.TokenBound(g, none, nil)
	locked, three := impl.LockedTokens(g, none)
	told, four := impl.ForestLocked(g, nil)
	meets, five := impl.ForestMeets(g, nil, none)
	if !one || !two || !three || !four || !five || number != 0 || bound != 0 || len(locked) != 0 || len(told) != 0 || !meets {
		t.Error("results", number, bound, locked, told, meets)
	}
}

// TestSetsWithoutTokens: there is one such set in each Graph, and nothing moves.
func TestSetsWithoutTokens(t *testing.T) {
	for _, g := range graphsOf(4) {
		none := []int{}
		slide, one := impl.SlideWalk(g, none, nil)
		jump, two := impl.JumpWalk(g, nil, none)
		add, three := impl.AddWalk(g, 0, none, none)
		bound, four := impl.TokenBound(g, none, none)
		locked, five := impl.LockedTokens(g, none)
		stuck, six := impl.StuckSets(g, 0)
		if !one || !two || !three || !four || !five || !six || bound != 0 || len(locked) != 0 {
			t.Fatal("no tokens", g, bound, locked)
		}
		for _, lists := range [][][]int{slide, jump, add, stuck} {
			if !sameLists(lists, [][]int{{}}) {
				t.Fatal("the set alone", g, lists)
			}
		}
		told, one := impl.ForestLocked(g, none)
		meets, two := impl.ForestMeets(g, none, nil)
		if one != isForest(g) || two != one || len(told) != 0 || meets != one {
			t.Fatal("rules", g, told, meets)
		}
		if _, ok := impl.AddWalk(g, 1, none, none); ok {
			t.Fatal("too few nodes", g)
		}
	}
}
