package tests

import (
	"math/rand"
	"slices"
	"testing"

	"loop.example/g01128/impl"
)

// codeOf tells permutations with the same number of numbers apart.
func codeOf(p []int) int {
	code := 0
	for _, number := range p {
		code = code*impl.MaxTokens + number
	}
	return code
}

// shortestLists returns, by the codes of all permutations from which swaps lead to one, the
// lexicographically first one of the shortest lists of these. It looks for the permutations that
// take one swap more, and at all swaps from each of them.
func shortestLists(to []int, next func(p []int) [][2]int) map[int][][2]int {
	lists := map[int][][2]int{codeOf(to): {}}
	for level := [][]int{to}; len(level) > 0; {
		longer, further := map[int][][2]int{}, [][]int{}
		for _, p := range level {
			for _, swap := range next(p) {
				other := withSwap(p, swap)
				code := codeOf(other)
				if lists[code] == nil && longer[code] == nil {
					longer[code] = leastList(other, next(other), lists)
					further = append(further, other)
				}
			}
		}
		for code, list := range longer {
			lists[code] = list
		}
		level = further
	}
	return lists
}

// leastList returns the least list that begins with one of the swaps and goes on with one that is
// there.
func leastList(p []int, swaps [][2]int, lists map[int][][2]int) [][2]int {
	least := [][2]int(nil)
	for _, swap := range swaps {
		rest := lists[codeOf(withSwap(p, swap))]
		if rest == nil {
			continue
		}
		list := append([][2]int{swap}, rest...)
		if least == nil || len(list) < len(least) || len(list) == len(least) && comparePairLists(list, least) < 0 {
			least = list
		}
	}
	return least
}

func comparePairLists(a [][2]int, b [][2]int) int {
	return slices.CompareFunc(a, b, func(x [2]int, y [2]int) int { return slices.Compare(x[:], y[:]) })
}

// tokenLists returns shortestLists of token swaps that bring all tokens home.
func tokenLists(g impl.Graph) map[int][][2]int {
	return shortestLists(numbersBelow(g.Size), func(p []int) [][2]int { return g.Edges })
}

// shapesOf returns one Graph with n nodes for each way in which they can be connected, up to the
// order of the nodes, which is one from a fixed seed.
func shapesOf(n int) []impl.Graph {
	random := rand.New(rand.NewSource(9))
	pairs := pairsOf(n)
	seen := make([]bool, 1<<len(pairs))
	shapes := []impl.Graph{}
	for digits := range seen {
		if seen[digits] {
			continue
		}
		same := []int{}
		for _, order := range ordersOf(n) {
			other := renamedEdges(pairs, digits, order)
			seen[other] = true
			same = append(same, other)
		}
		shapes = append(shapes, impl.Graph{Size: n, Edges: chosen(pairs, same[random.Intn(len(same))])})
	}
	return shapes
}

// renamedEdges returns the digits of the edges between the nodes that an order has for those of
// each edge.
func renamedEdges(pairs [][2]int, digits int, order []int) int {
	renamed := 0
	for k, pair := range pairs {
		if digits>>k&1 == 1 {
			a, b := order[pair[0]], order[pair[1]]
			renamed |= 1 << slices.Index(pairs, [2]int{min(a, b), max(a, b)})
		}
	}
	return renamed
}

func TestShapes(t *testing.T) {
	for n, want := range []int{1, 1, 2, 4, 11, 34, 156} {
		if shapes := shapesOf(n); len(shapes) != want {
			t.Error("shapes", n, len(shapes))
		}
	}
}

// allOfSize returns all Graphs with n nodes.
func allOfSize(n int) []impl.Graph {
	return slices.DeleteFunc(graphsOf(n), func(g impl.Graph) bool { return g.Size != n })
}

// greaterGraphs have more nodes than boards have.
func greaterGraphs() []impl.Graph {
	graphs := append(graphsOf(4), chosenMatchingGraphs()...)
	return slices.DeleteFunc(graphs, func(g impl.Graph) bool { return g.Size <= impl.MaxBoard })
}

// tokenSpaceOf returns the Space of all permutations, with the steps that lead along edges.
func tokenSpaceOf(g impl.Graph) impl.Space {
	x := impl.Space{States: permutationsOf(g.Size)}
	places := map[int]int{}
	for place, state := range x.States {
		places[codeOf(state)] = place
	}
	for place, state := range x.States {
		further := []int{}
		for _, edge := range g.Edges {
			if other := places[codeOf(withSwap(state, edge))]; other > place {
				further = append(further, other)
			}
		}
		slices.Sort(further)
		for _, other := range further {
			x.Steps = append(x.Steps, [2]int{place, other})
		}
	}
	return x
}

func TestTokenSpace(t *testing.T) {
	for n := range 6 {
		for _, g := range allOfSize(n) {
			if x, ok := impl.TokenSpace(g); !ok || !impl.IsSpace(x) || !sameSpace(x, tokenSpaceOf(g)) {
				t.Fatal("token space", g, x, ok)
			}
		}
	}
}

func TestKnownTokenSpaces(t *testing.T) {
	for _, c := range []struct {
		g             impl.Graph
		states, steps int
	}{
		{impl.Graph{}, 1, 0}, {impl.Graph{Size: 1}, 1, 0}, {impl.Graph{Size: 2}, 2, 0}, {rowOf(2), 2, 1}, {rowOf(3), 6, 6}, {complete(3), 6, 9}, {parted(), 120, 120},
		// Each of the 10 edges pairs the 120 permutations.
		{complete(5), 120, 600}, {impl.Graph{Size: 5}, 120, 0}, {cycleOf(5), 120, 300}, {starOf(5), 120, 240},
	} {
		x, ok := impl.TokenSpace(c.g)
		if !ok || len(x.States) != c.states || len(x.Steps) != c.steps || len(x.States[0]) != c.g.Size {
			t.Error("token space", c, len(x.States), len(x.Steps), ok)
		}
	}
	x, _ := impl.TokenSpace(rowOf(3))
	want := impl.Space{States: [][]int{{0, 1, 2}, {0, 2, 1}, {1, 0, 2}, {1, 2, 0}, {2, 0, 1}, {2, 1, 0}}, Steps: [][2]int{{0, 1}, {0, 2}, {1, 4}, {2, 3}, {3, 5}, {4, 5}}}
	if !sameSpace(x, want) {
		t.Error("token space of a row", x)
	}
}

func TestTokenSpaceFailsForMoreNodes(t *testing.T) {
	for n := 6; n <= impl.MaxNodes; n++ {
		for _, g := range []impl.Graph{{Size: n}, rowOf(n), complete(n), {Size: n, Edges: [][2]int{{0, 1}}}} {
			failAll(t, []aCall{tokenSpaceCall(g)}, "more than 5 nodes")
		}
	}
}

// checkTokens holds TokenDistance and TokenSwaps against the shortest lists.
func checkTokens(t *testing.T, g impl.Graph, p []int, lists map[int][][2]int) {
	t.Helper()
	want := lists[codeOf(p)]
	if want == nil {
		failAll(t, homeCalls(g, p), "no way home")
		return
	}
	far, isFar := impl.TokenDistance(g, p)
	swaps, ok := impl.TokenSwaps(g, p)
	if !isFar || !ok || far != len(want) || !slices.Equal(swaps, want) {
		t.Error("tokens", g, p, far, isFar, swaps, ok, want)
	}
	if home, ok := impl.SwapPlaces(p, swaps); !ok || !isSorted(home) {
		t.Error("not home", g, p, swaps, home, ok)
	}
	half, ok := impl.TokenHalf(g, p)
	if !ok || half > far || swapCountOf(t, p) > far {
		t.Error("less than a bound", g, p, far, half, ok)
	}
}

func TestTokensComeHome(t *testing.T) {
	random := rand.New(rand.NewSource(9))
	most := []int{1, 1, 2, 6, 24, 6, 6}
	for n := range impl.MaxBoard + 1 {
		graphs := shapesOf(n)
		if n < 6 {
			graphs = allOfSize(n)
		}
		permutations := permutationsOf(n)
		for _, g := range graphs {
			lists := tokenLists(g)
			random.Shuffle(len(permutations), func(i int, j int) { permutations[i], permutations[j] = permutations[j], permutations[i] })
			for _, p := range permutations[:most[n]] {
				checkTokens(t, g, p, lists)
			}
			checkTokens(t, g, numbersBelow(n), lists)
		}
	}
}

func TestKnownTokenSwaps(t *testing.T) {
	for _, c := range []struct {
		g    impl.Graph
		p    []int
		want [][2]int
	}{
		{impl.Graph{}, nil, nil}, {impl.Graph{Size: 1}, []int{0}, nil}, {impl.Graph{Size: 2}, []int{0, 1}, nil}, {rowOf(2), []int{1, 0}, [][2]int{{0, 1}}}, {impl.Graph{Size: 6}, numbersBelow(6), nil},
		{rowOf(3), []int{2, 1, 0}, [][2]int{{0, 1}, {1, 2}, {0, 1}}}, {complete(3), []int{2, 1, 0}, [][2]int{{0, 2}}}, {complete(3), []int{1, 2, 0}, [][2]int{{0, 1}, {0, 2}}},
		{parted(), []int{1, 0, 3, 2, 4}, [][2]int{{0, 1}, {2, 3}}}, {complete(6), turnedOnce(6), [][2]int{{0, 1}, {0, 2}, {0, 3}, {0, 4}, {0, 5}}},
		{starOf(4), []int{0, 2, 1, 3}, [][2]int{{0, 1}, {0, 2}, {0, 1}}}, {cycleOf(4), []int{1, 2, 3, 0}, [][2]int{{0, 1}, {0, 3}, {2, 3}}},
	} {
		swaps, ok := impl.TokenSwaps(c.g, c.p)
		far, isFar := impl.TokenDistance(c.g, c.p)
		if !ok || !isFar || !slices.Equal(swaps, c.want) || far != len(c.want) {
			t.Error("token swaps", c, swaps, ok, far, isFar)
		}
	}
	for _, c := range []struct {
		g impl.Graph
		p []int
	}{
		{impl.Graph{Size: 2}, []int{1, 0}}, {parted(), []int{0, 2, 1, 3, 4}}, {parted(), []int{0, 1, 2, 4, 3}}, {looseTriangle(), []int{3, 1, 2, 0}}, {impl.Graph{Size: 6}, []int{0, 1, 2, 3, 5, 4}},
	} {
		failAll(t, append(homeCalls(c.g, c.p), halfCall(c.g, c.p)), "no way home")
	}
}

// TestTokensOfSpecialGraphs is the guarantee on Graphs all of whose nodes are neighbors, and on
// rows.
func TestTokensOfSpecialGraphs(t *testing.T) {
	for n := range impl.MaxBoard + 1 {
		for _, p := range permutationsOf(n) {
			if far, ok := impl.TokenDistance(complete(n), p); !ok || far != swapCountOf(t, p) {
				t.Error("all are neighbors", p, far, ok)
			}
			inversions, isInversions := impl.InversionCount(p)
			if far, ok := impl.TokenDistance(rowOf(n), p); !ok || !isInversions || far != inversions {
				t.Error("a row", p, far, ok, inversions)
			}
		}
	}
}

// TestTokenDistanceFailsForMoreNodes also where no token must move.
func TestTokenDistanceFailsForMoreNodes(t *testing.T) {
	for _, g := range greaterGraphs() {
		for _, p := range [][]int{numbersBelow(g.Size), turnedOnce(g.Size), reversed(numbersBelow(g.Size)), withSwap(numbersBelow(g.Size), [2]int{0, 1})} {
			failAll(t, homeCalls(g, p), "more than MaxBoard nodes")
		}
	}
}

// sumOfDistances returns -1 if a token has no way home.
func sumOfDistances(table [][]int, p []int) int {
	sum := 0
	for node, token := range p {
		if table[node][token] < 0 {
			return -1
		}
		sum += table[node][token]
	}
	return sum
}

// nodesAsStates returns a Space in which the distances are those of the nodes.
func nodesAsStates(g impl.Graph) impl.Space {
	return impl.Space{States: lineStates(g.Size), Steps: g.Edges}
}

func TestTokenHalf(t *testing.T) {
	some := [][][]int{}
	for n := range impl.MaxNodes + 1 {
		some = append(some, spread(permutationsOf(n), 30))
	}
	none, odd := 0, 0
	for _, g := range append(graphsOf(5), chosenMatchingGraphs()...) {
		table := distanceTable(nodesAsStates(g))
		for _, p := range some[g.Size] {
			sum := sumOfDistances(table, p)
			if sum < 0 {
				failAll(t, []aCall{halfCall(g, p)}, "no way home")
				none++
				continue
			}
			if half, ok := impl.TokenHalf(g, p); !ok || half != (sum+1)/2 {
				t.Fatal("half", g, p, half, ok, sum)
			}
			odd += sum % 2
		}
	}
	if none < 5000 || odd < 5000 {
		t.Error("too few", none, odd)
	}
}

func TestKnownHalves(t *testing.T) {
	for _, c := range []struct {
		g    impl.Graph
		p    []int
		want int
	}{
		{impl.Graph{}, nil, 0}, {impl.Graph{Size: 1}, []int{0}, 0}, {impl.Graph{Size: 8}, numbersBelow(8), 0}, {rowOf(2), []int{1, 0}, 1}, {rowOf(3), []int{2, 1, 0}, 2},
		// Three tokens that go one step each: 3/2, rounded up.
		{complete(3), []int{1, 2, 0}, 2}, {complete(8), turnedOnce(8), 4}, {complete(7), turnedOnce(7), 4}, {cycleOf(7), turnedOnce(7), 4}, {rowOf(8), reversed(numbersBelow(8)), 16},
		{rowOf(8), turnedOnce(8), 7}, {starOf(8), []int{0, 2, 1, 3, 4, 5, 6, 7}, 2}, {cube(), reversed(numbersBelow(8)), 12},
	} {
		if half, ok := impl.TokenHalf(c.g, c.p); !ok || half != c.want {
			t.Error("half", c, half, ok)
		}
	}
}

// TestNoSwapsAreFewerThanHalf makes swaps from home on Graphs of all sizes: the same swaps lead
// back, the last one first.
func TestNoSwapsAreFewerThanHalf(t *testing.T) {
	random := rand.New(rand.NewSource(9))
	tight := 0
	for _, g := range append(graphsOf(4), chosenMatchingGraphs()...) {
		for range 20 {
			p := numbersBelow(g.Size)
			for count := range 12 {
				half, ok := impl.TokenHalf(g, p)
				if !ok || half > count {
					t.Fatal("fewer than half", g, p, half, ok, count)
				}
				if half == count && count > 2 {
					tight++
				}
				if len(g.Edges) > 0 {
					p = withSwap(p, g.Edges[random.Intn(len(g.Edges))])
				}
			}
		}
	}
	if tight < 100 {
		t.Error("too few", tight)
	}
}
