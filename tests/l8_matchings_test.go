package tests

import (
	"math"
	"math/bits"
	"slices"
	"testing"

	"loop.example/g01128/impl"
)

// nodesOf returns the nodes of edges with some numbers, as digits.
func nodesOf(g impl.Graph, numbers []int) int {
	nodes := 0
	for _, edge := range edgesAt(g, numbers) {
		nodes |= 1<<edge[0] | 1<<edge[1]
	}
	return nodes
}

// isMatchingOf counts the nodes of different edges.
func isMatchingOf(g impl.Graph, numbers []int) bool {
	return bits.OnesCount(uint(nodesOf(g, numbers))) == 2*len(numbers)
}

// matchingsOf looks at all lists of k edges.
func matchingsOf(g impl.Graph, k int) [][]int {
	if 2*k > g.Size {
		return nil
	}
	isNone := func(numbers []int) bool { return !isMatchingOf(g, numbers) }
	return slices.DeleteFunc(listsOfNumbers(0, len(g.Edges), k), isNone)
}

// allMatchings returns the matchings with any number of edges.
func allMatchings(g impl.Graph) [][]int {
	matchings := [][]int{}
	for k := range g.Size/2 + 1 {
		matchings = append(matchings, matchingsOf(g, k)...)
	}
	return matchings
}

// perfectOf gives each node a partner, the least one that has none first.
func perfectOf(g impl.Graph) [][]int {
	matchings := [][]int{}
	var give func(numbers []int)
	give = func(numbers []int) {
		nodes := nodesOf(g, numbers)
		if nodes == 1<<g.Size-1 {
			matchings = append(matchings, slices.Sorted(slices.Values(numbers)))
			return
		}
		least := bits.TrailingZeros(^uint(nodes))
		for number, edge := range g.Edges {
			if edge[0] == least && nodes>>edge[1]&1 == 0 {
				give(append(slices.Clone(numbers), number))
			}
		}
	}
	give(nil)
	slices.SortFunc(matchings, slices.Compare[[]int])
	return matchings
}

// isSquare reports whether two edges are exchanged for two others on the same four nodes.
func isSquare(g impl.Graph, a []int, b []int) bool {
	out, in := notIn(a, b), notIn(b, a)
	return len(out) == 2 && len(in) == 2 && nodesOf(g, out) == nodesOf(g, in)
}

// isCycle reports whether all edges that are not in both are those of a single cycle: connected,
// with two at each node.
func isCycle(g impl.Graph, a []int, b []int) bool {
	edges := edgesAt(g, append(notIn(a, b), notIn(b, a)...))
	if len(edges) == 0 {
		return false
	}
	degrees := [impl.MaxNodes]int{}
	for _, edge := range edges {
		degrees[edge[0]]++
		degrees[edge[1]]++
	}
	side := sideOf(edges, edges[0][0])
	for node, degree := range degrees {
		if degree != 2*(side>>node&1) {
			return false
		}
	}
	return true
}

// perfectSpaceOf returns the Space of all perfect matchings.
func perfectSpaceOf(g impl.Graph, differ func(g impl.Graph, a []int, b []int) bool) impl.Space {
	states := perfectOf(g)
	return impl.Space{States: states, Steps: stepsWhere(len(states), func(i int, j int) bool { return differ(g, states[i], states[j]) })}
}

// piecesBetween returns, for each node at an edge that just one of both has, what such edges
// connect with it.
func piecesBetween(g impl.Graph, a []int, b []int) [][]int {
	edges := edgesAt(g, append(notIn(a, b), notIn(b, a)...))
	pieces := [][]int{}
	for node := range g.Size {
		// A node in the piece of a less one has been there before.
		if side := sideOf(edges, node); side != 1<<node && side&(1<<node-1) == 0 {
			pieces = append(pieces, setOf(side))
		}
	}
	return pieces
}

// alternatingFrom goes along edges of both matchings until it is back at the node.
func alternatingFrom(g impl.Graph, node int, a []int, b []int) []int {
	cycle, at := []int{}, node
	for {
		for _, matching := range [][]int{a, b} {
			cycle = append(cycle, at)
			k := slices.IndexFunc(edgesAt(g, matching), func(edge [2]int) bool { return edge[0] == at || edge[1] == at })
			edge := g.Edges[matching[k]]
			at = edge[0] + edge[1] - at
		}
		if at == node {
			return cycle
		}
	}
}

// twoSquares has two cycles of 4 nodes, with no edge between them.
func twoSquares() impl.Graph {
	return impl.Graph{Size: 8, Edges: [][2]int{{0, 1}, {0, 3}, {1, 2}, {2, 3}, {4, 5}, {4, 7}, {5, 6}, {6, 7}}}
}

// graphWithManyMatchings has 297 matchings of 3 edges, the most up to MaxStates.
func graphWithManyMatchings() impl.Graph {
	return withoutEdges(complete(8), [2]int{1, 5}, [2]int{0, 6}, [2]int{2, 6})
}

// graphWithTooManyMatchings has 302 matchings of 3 edges, the fewest above MaxStates.
func graphWithTooManyMatchings() impl.Graph {
	return withoutEdges(complete(8), [2]int{0, 1}, [2]int{5, 7}, [2]int{4, 6})
}

func chosenMatchingGraphs() []impl.Graph {
	return append(chosenGraphs(), twoSquares(), graphWithManyMatchings(), graphWithTooManyMatchings(), complete(7), cycleOf(7), impl.Graph{Size: 8, Edges: [][2]int{{0, 1}, {2, 3}, {4, 5}, {6, 7}}})
}

func matchingGraphs() []impl.Graph { return append(graphsOf(4), chosenMatchingGraphs()...) }

func checkIsMatching(t *testing.T, g impl.Graph, list []int, want bool) {
	t.Helper()
	if is, ok := impl.IsMatching(g, list); !ok || is != want {
		t.Error("matching", g, list, is, ok)
	}
}

// TestIsMatching tries all strictly ascending lists of at most 4 edges, and such as are none.
func TestIsMatching(t *testing.T) {
	for _, g := range matchingGraphs() {
		for k := range 5 {
			for _, list := range listsOfNumbers(0, len(g.Edges), k) {
				checkIsMatching(t, g, list, isMatchingOf(g, list))
			}
		}
		everyList(3, -1, min(len(g.Edges), 4), func(list []int) {
			checkIsMatching(t, g, list, isListBelow(list, len(g.Edges)) && isMatchingOf(g, list))
		})
		for _, matching := range spread(allMatchings(g), 20) {
			checkIsMatching(t, g, matching, true)
			for _, list := range notMatchings(g, matching) {
				checkIsMatching(t, g, list, false)
			}
		}
	}
}

// notMatchings returns lists that are near to a matching, but none.
func notMatchings(g impl.Graph, matching []int) [][]int {
	lists := [][]int{make([]int, 1000), {-1}, {len(g.Edges)}, {math.MinInt}, {math.MaxInt}, {1 << 32}, {-1 << 32}}
	for _, far := range []int{len(g.Edges), len(g.Edges) + 1, 28, 64, 1 << 32, math.MaxInt} {
		lists = append(lists, append(slices.Clone(matching), max(far, len(g.Edges))))
	}
	for _, far := range []int{-1, -2, -64, -1 << 32, math.MinInt} {
		lists = append(lists, append([]int{far}, matching...))
	}
	for k, edge := range matching {
		lists = append(lists, slices.Insert(slices.Clone(matching), k, edge), append(slices.Clone(matching), edge))
		for _, far := range []int{1<<32 + edge, edge - 1<<32, -1 - edge} {
			lists = append(lists, withColour(matching, k, far))
		}
		if k > 0 {
			swapped := slices.Clone(matching)
			swapped[k-1], swapped[k] = edge, matching[k-1]
			lists = append(lists, swapped)
		}
	}
	for number := range g.Edges {
		longer := slices.Sorted(slices.Values(append(slices.Clone(matching), number)))
		if !slices.Contains(matching, number) && !isMatchingOf(g, longer) {
			lists = append(lists, longer) // two edges with a common node
		}
	}
	return lists
}

func TestLargestMatching(t *testing.T) {
	sizes := map[int]int{}
	for _, g := range append(graphsOf(5), chosenMatchingGraphs()...) {
		all := allMatchings(g)
		longest := len(all[len(all)-1])
		largest, ok := impl.LargestMatching(g)
		if !ok || !slices.Equal(largest, matchingsOf(g, longest)[0]) {
			t.Fatal("largest matching", g, largest, ok)
		}
		sizes[longest]++
	}
	for k := range impl.MaxNodes/2 + 1 {
		if sizes[k] < 5 {
			t.Error("too few", k, sizes)
		}
	}
}

func TestKnownLargestMatchings(t *testing.T) {
	for _, c := range []struct {
		g    impl.Graph
		want []int
	}{
		{impl.Graph{}, nil}, {impl.Graph{Size: 1}, nil}, {impl.Graph{Size: 8}, nil}, {rowOf(2), []int{0}}, {rowOf(3), []int{0}}, {rowOf(4), []int{0, 2}}, {starOf(8), []int{0}},
		// In the row 1 0 2 3, the first edge, 0-1, is in the matching of two; in 1 2 0 3 it has just the edge 0-3 beside it.
		{impl.Graph{Size: 4, Edges: [][2]int{{0, 1}, {0, 2}, {2, 3}}}, []int{0, 2}}, {impl.Graph{Size: 4, Edges: [][2]int{{0, 2}, {0, 3}, {1, 2}}}, []int{1, 2}},
		{cycleOf(4), []int{0, 3}}, {complete(8), []int{0, 13, 22, 27}}, {complete(7), []int{0, 11, 18}}, {looseTriangle(), []int{0}}, {twoTriangles(), []int{0, 3}},
	} {
		if largest, ok := impl.LargestMatching(c.g); !ok || !slices.Equal(largest, c.want) {
			t.Error("largest matching", c, largest)
		}
	}
}

func TestMatchingSpace(t *testing.T) {
	tooMany, none := 0, 0
	for _, g := range matchingGraphs() {
		for k := range impl.MaxNodes + 1 {
			want := matchingsOf(g, k)
			if len(want) > impl.MaxStates {
				failAll(t, []aCall{matchingSpaceCall(g, k)}, "more than MaxStates matchings")
				tooMany++
				continue
			}
			x, ok := impl.MatchingSpace(g, k)
			if !ok || !impl.IsSpace(x) || !sameSpace(x, exchangesOf(want)) {
				t.Fatal("matching space", g, k, x, ok)
			}
			if len(want) == 0 {
				none++
			}
		}
	}
	if tooMany < 3 || none < 300 {
		t.Error("too few", tooMany, none)
	}
}

// TestTheMostMatchings: no Graph has just MaxStates matchings of one number of edges, or one more.
func TestTheMostMatchings(t *testing.T) {
	if x, ok := impl.MatchingSpace(graphWithManyMatchings(), 3); !ok || len(x.States) != 297 || !impl.IsSpace(x) {
		t.Error("at most MaxStates", len(x.States), ok)
	}
	if count := len(matchingsOf(graphWithTooManyMatchings(), 3)); count != 302 {
		t.Error("more than MaxStates", count)
	}
	for _, g := range []impl.Graph{graphWithTooManyMatchings(), complete(8), withoutEdges(complete(8), [2]int{0, 1})} {
		failAll(t, []aCall{matchingSpaceCall(g, 3)}, "more than MaxStates matchings")
		for _, k := range []int{0, 1, 2, 4, 5, 8} {
			succeedAll(t, []aCall{matchingSpaceCall(g, k)})
		}
	}
}

func TestKnownMatchingSpaces(t *testing.T) {
	for _, c := range []struct {
		g             impl.Graph
		k             int
		states, steps int
	}{
		{impl.Graph{}, 0, 1, 0}, {impl.Graph{}, 1, 0, 0}, {impl.Graph{}, 8, 0, 0}, {impl.Graph{Size: 8}, 0, 1, 0}, {impl.Graph{Size: 8}, 1, 0, 0}, {rowOf(2), 1, 1, 0},
		// Each of the 28 edges of all 8 nodes is exchanged for each other one; of two, one stays and 14 others are beside it.
		{complete(8), 0, 1, 0}, {complete(8), 1, 28, 378}, {complete(8), 2, 210, 2940}, {complete(8), 4, 105, 0}, {complete(8), 5, 0, 0}, {complete(8), 8, 0, 0},
		{cycleOf(4), 1, 4, 6}, {cycleOf(4), 2, 2, 0}, {cycleOf(4), 3, 0, 0}, {starOf(8), 1, 7, 21}, {starOf(8), 2, 0, 0}, {complete(7), 3, 105, 105 * 6 / 2},
	} {
		x, ok := impl.MatchingSpace(c.g, c.k)
		if !ok || len(x.States) != c.states || len(x.Steps) != c.steps {
			t.Error("matching space", c, len(x.States), len(x.Steps), ok)
		}
	}
}

func TestPerfectMatchings(t *testing.T) {
	with, without, odd := 0, 0, 0
	for _, g := range append(graphsOf(5), chosenMatchingGraphs()...) {
		want := perfectOf(g)
		matchings, ok := impl.PerfectMatchings(g)
		if !ok || !sameLists(matchings, want) {
			t.Fatal("perfect matchings", g, matchings, ok)
		}
		switch {
		case g.Size%2 == 1:
			odd++
			if len(want) > 0 {
				t.Fatal("an odd number of nodes", g, want)
			}
		case !sameLists(want, matchingsOf(g, g.Size/2)):
			t.Fatal("half as many edges as nodes", g, want)
		case len(want) > 0:
			with++
		default:
			without++
		}
	}
	if with < 80 || without < 40 || odd < 1000 {
		t.Error("too few", with, without, odd)
	}
}

func TestKnownPerfectSpaces(t *testing.T) {
	for _, c := range []struct {
		name                     string
		g                        impl.Graph
		states, squares, circles int
	}{
		// Without nodes, the matching without edges is perfect.
		{"no nodes", impl.Graph{}, 1, 0, 0}, {"one node", impl.Graph{Size: 1}, 0, 0, 0}, {"two nodes", impl.Graph{Size: 2}, 0, 0, 0}, {"no edges", impl.Graph{Size: 8}, 0, 0, 0},
		{"an edge", rowOf(2), 1, 0, 0}, {"four nodes", complete(4), 3, 3, 3}, {"five nodes", complete(5), 0, 0, 0}, {"six nodes", complete(6), 15, 15 * 6 / 2, 15 * 14 / 2},
		// Of 4 edges, each two are exchanged for two others, each three for 8 others, and all for 48 others on one cycle.
		{"all edges", complete(8), 105, 105 * 12 / 2, 105 * (12 + 32 + 48) / 2},
		{"square", cycleOf(4), 2, 1, 1}, {"cycle of six", cycleOf(6), 2, 0, 1}, {"cycle of eight", cycleOf(8), 2, 0, 1}, {"cycle of seven", cycleOf(7), 0, 0, 0},
		{"two squares", twoSquares(), 4, 4, 4}, {"row", rowOf(8), 1, 0, 0}, {"star", starOf(8), 0, 0, 0}, {"two triangles", twoTriangles(), 0, 0, 0},
		{"two blocks", twoBlocks(), 9, 18, 18}, {"prism", prism(), 4, 3, 6}, {"two sides of three", twoSides(3), 6, 9, 15}, {"two sides of four", twoSides(4), 24, 24 * 6 / 2, 24 * (6 + 8 + 6) / 2},
	} {
		matchings, one := impl.PerfectMatchings(c.g)
		x, two := impl.SquareSpace(c.g)
		y, three := impl.CycleSpace(c.g)
		if !one || !two || !three || len(matchings) != c.states || len(x.States) != c.states || len(y.States) != c.states || len(x.Steps) != c.squares || len(y.Steps) != c.circles {
			t.Error(c.name, len(matchings), len(x.States), len(x.Steps), len(y.States), len(y.Steps))
		}
	}
}

func TestSquareSpaceAndCycleSpace(t *testing.T) {
	onlyCycles, apart := 0, 0
	for _, g := range matchingGraphs() {
		x, one := impl.SquareSpace(g)
		if !one || !impl.IsSpace(x) || !sameSpace(x, perfectSpaceOf(g, isSquare)) {
			t.Fatal("square space", g, x, one)
		}
		y, two := impl.CycleSpace(g)
		if !two || !impl.IsSpace(y) || !sameSpace(y, perfectSpaceOf(g, isCycle)) {
			t.Fatal("cycle space", g, y, two)
		}
		if len(y.Steps) > len(x.Steps) {
			onlyCycles++
		}
		if parts, _ := impl.PartsOf(x); len(parts) > 1 {
			apart++
		}
	}
	if onlyCycles < 20 || apart < 5 {
		t.Error("too few", onlyCycles, apart)
	}
}

// TestCycleSpaceHasOnePart, with ways no longer than there are pieces.
func TestCycleSpaceHasOnePart(t *testing.T) {
	several := 0
	for _, g := range append(graphsOf(5), chosenMatchingGraphs()...) {
		x, _ := impl.CycleSpace(g)
		if parts, ok := impl.PartsOf(x); !ok || len(parts) > 1 || (len(parts) == 0) != (len(x.States) == 0) {
			t.Fatal("parts", g, parts, ok)
		}
		for i := 0; i < len(x.States); i += 1 + len(x.States)/8 {
			distances, _ := impl.DistancesFrom(x, i)
			for j, distance := range distances {
				pieces, ok := impl.DifferencePieces(g, x.States[i], x.States[j])
				if !ok || distance < 0 || distance > len(pieces) || (distance == 0) != (len(pieces) == 0) {
					t.Fatal("distance and pieces", g, x.States[i], x.States[j], distance, pieces, ok)
				}
				if len(pieces) > 1 {
					several++
				}
			}
		}
	}
	if several < 50 {
		t.Error("too few", several)
	}
}

// pairsToCompare returns the matchings whose pairs are looked at, some perfect ones among them.
func pairsToCompare(g impl.Graph) [][]int {
	return append(spread(allMatchings(g), 24), spread(perfectOf(g), 12)...)
}

func TestDifferencePieces(t *testing.T) {
	counts := map[int]int{}
	for _, g := range matchingGraphs() {
		list := pairsToCompare(g)
		for _, a := range list {
			for _, b := range list {
				want := piecesBetween(g, a, b)
				pieces, ok := impl.DifferencePieces(g, a, b)
				if !ok || !sameLists(pieces, want) || (len(pieces) == 0) != slices.Equal(a, b) {
					t.Fatal("pieces", g, a, b, pieces, ok)
				}
				counts[len(pieces)]++
			}
		}
	}
	for pieces := range 5 {
		if counts[pieces] < 10 {
			t.Error("too few", pieces, counts)
		}
	}
}

func TestKnownPieces(t *testing.T) {
	type lists = [][]int
	apart := impl.Graph{Size: 8, Edges: [][2]int{{0, 1}, {2, 3}, {4, 5}, {6, 7}}}
	crossed := impl.Graph{Size: 4, Edges: [][2]int{{0, 2}, {1, 3}}}
	for _, c := range []struct {
		g    impl.Graph
		a, b []int
		want lists
	}{
		{impl.Graph{}, nil, nil, nil}, {impl.Graph{Size: 8}, nil, nil, nil}, {rowOf(2), []int{0}, []int{0}, nil}, {rowOf(2), []int{0}, nil, lists{{0, 1}}}, {rowOf(2), nil, []int{0}, lists{{0, 1}}},
		{rowOf(3), []int{0}, []int{1}, lists{{0, 1, 2}}}, {rowOf(4), []int{0, 2}, []int{1}, lists{{0, 1, 2, 3}}}, {rowOf(4), []int{0, 2}, []int{0}, lists{{2, 3}}},
		{apart, []int{0, 1, 2, 3}, nil, lists{{0, 1}, {2, 3}, {4, 5}, {6, 7}}}, {apart, []int{0, 2}, []int{1, 3}, lists{{0, 1}, {2, 3}, {4, 5}, {6, 7}}}, {apart, []int{0, 1, 3}, []int{1, 2, 3}, lists{{0, 1}, {4, 5}}},
		{cycleOf(4), []int{0, 3}, []int{1, 2}, lists{{0, 1, 2, 3}}}, {twoSquares(), []int{0, 3, 4, 7}, []int{1, 2, 5, 6}, lists{{0, 1, 2, 3}, {4, 5, 6, 7}}}, {twoSquares(), []int{0, 3, 4, 7}, []int{0, 3, 5, 6}, lists{{4, 5, 6, 7}}},
		{crossed, []int{0, 1}, nil, lists{{0, 2}, {1, 3}}}, {crossed, []int{0}, []int{1}, lists{{0, 2}, {1, 3}}},
	} {
		if pieces, ok := impl.DifferencePieces(c.g, c.a, c.b); !ok || !sameLists(pieces, c.want) {
			t.Error("pieces", c, pieces, ok)
		}
	}
}

// exchangedAt returns a matching with the edges of another one at some nodes.
func exchangedAt(g impl.Graph, a []int, b []int, nodes []int) []int {
	isThere := func(edge int) bool { return slices.Contains(nodes, g.Edges[edge][0]) }
	isElsewhere := func(edge int) bool { return !isThere(edge) }
	changed := append(slices.DeleteFunc(slices.Clone(a), isThere), slices.DeleteFunc(slices.Clone(b), isElsewhere)...)
	return slices.Sorted(slices.Values(changed))
}

func TestAlternatingCycle(t *testing.T) {
	lengths, several := map[int]int{}, 0
	for _, g := range append(graphsOf(5), chosenMatchingGraphs()...) {
		list := spread(perfectOf(g), 40)
		for _, a := range list {
			for _, b := range list {
				if slices.Equal(a, b) {
					failAll(t, []aCall{alternatingCall(g, a, b)}, "the same matching")
					continue
				}
				pieces := piecesBetween(g, a, b)
				cycle, ok := impl.AlternatingCycle(g, a, b)
				if !ok || !slices.Equal(cycle, alternatingFrom(g, pieces[0][0], a, b)) || !slices.Equal(slices.Sorted(slices.Values(cycle)), pieces[0]) {
					t.Fatal("cycle", g, a, b, cycle, ok)
				}
				if !isCycle(g, a, exchangedAt(g, a, b, cycle)) {
					t.Fatal("the exchange along the cycle is no step", g, a, b, cycle)
				}
				lengths[len(cycle)]++
				if len(pieces) > 1 {
					several++
				}
			}
		}
	}
	if lengths[4] < 100 || lengths[6] < 100 || lengths[8] < 100 || len(lengths) != 3 || several < 100 {
		t.Error("too few", lengths, several)
	}
}

func TestKnownAlternatingCycles(t *testing.T) {
	for _, c := range []struct {
		g          impl.Graph
		a, b, want []int
	}{
		{cycleOf(4), []int{0, 3}, []int{1, 2}, []int{0, 1, 2, 3}}, {cycleOf(4), []int{1, 2}, []int{0, 3}, []int{0, 3, 2, 1}},
		// Edges 0-1 0-2 0-3 1-2 1-3 2-3.
		{complete(4), []int{0, 5}, []int{1, 4}, []int{0, 1, 3, 2}}, {complete(4), []int{1, 4}, []int{0, 5}, []int{0, 2, 3, 1}}, {complete(4), []int{2, 3}, []int{1, 4}, []int{0, 3, 1, 2}},
		{cycleOf(6), []int{0, 3, 5}, []int{1, 2, 4}, []int{0, 1, 2, 3, 4, 5}}, {twoSquares(), []int{0, 3, 4, 7}, []int{1, 2, 5, 6}, []int{0, 1, 2, 3}}, {twoSquares(), []int{0, 3, 4, 7}, []int{0, 3, 5, 6}, []int{4, 5, 6, 7}},
		{twoSquares(), []int{0, 3, 5, 6}, []int{0, 3, 4, 7}, []int{4, 7, 6, 5}},
	} {
		if cycle, ok := impl.AlternatingCycle(c.g, c.a, c.b); !ok || !slices.Equal(cycle, c.want) {
			t.Error("cycle", c, cycle, ok)
		}
	}
}
