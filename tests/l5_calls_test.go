package tests

import (
	"math"
	"slices"
	"testing"

	"loop.example/g01128/impl"
)

// paletteCalls returns a call of each function with a number of colours alone.
func paletteCalls(g impl.Graph, k int) []aCall {
	return []aCall{
		{"Colourings", impl.Colourings, []any{g, k}},
		{"ColourSpace", impl.ColourSpace, []any{g, k}},
		{"KempeSpace", impl.KempeSpace, []any{g, k}},
	}
}

// walkCalls returns a call of each function that tells of walks of colourings.
func walkCalls(g impl.Graph, k int, a []int, b []int) []aCall {
	return []aCall{
		{"RecolourWalk", impl.RecolourWalk, []any{g, k, a, b}},
		{"KempeWalk", impl.KempeWalk, []any{g, k, a, b}},
		{"FixedNodes", impl.FixedNodes, []any{g, k, a}},
	}
}

func chainCalls(g impl.Graph, k int, a []int, x int, c int) []aCall {
	return []aCall{
		{"ChainOf", impl.ChainOf, []any{g, k, a, x, c}},
		{"KempeChange", impl.KempeChange, []any{g, k, a, x, c}},
	}
}

func renameCall(g impl.Graph, k int, a []int, to []int) aCall {
	return aCall{"RenameColours", impl.RenameColours, []any{g, k, a, to}}
}

// colouringCalls returns a call of each function with a colouring and k colours, but for
// IsColouring. A node of the Graph, and a colour that it does not have, are to be named.
func colouringCalls(g impl.Graph, k int, a []int, x int, c int) []aCall {
	return append(append(walkCalls(g, k, a, a), chainCalls(g, k, a, x, c)...),
		aCall{"StillNodes", impl.StillNodes, []any{g, k, a}},
		renameCall(g, k, a, firstNumbers(k)))
}

// firstNumbers returns 0..n-1 for numbers that are not too great.
func firstNumbers(n int) []int {
	list := []int{}
	for number := 0; number < min(n, 10); number++ {
		list = append(list, number)
	}
	return list
}

func graphCalls(g impl.Graph, order []int) []aCall {
	return []aCall{
		{"PeelingOf", impl.PeelingOf, []any{g}},
		{"GreedyColours", impl.GreedyColours, []any{g, order}},
		{"MixingColours", impl.MixingColours, []any{g}},
	}
}

// colourCalls returns a call of each function of the chapter.
func colourCalls(g impl.Graph, k int, a []int, x int, c int, list []int) []aCall {
	return append(slices.Concat(paletteCalls(g, k), colouringCalls(g, k, a, x, c), graphCalls(g, list)),
		windingCall(g, a, list),
		renameCall(g, k, a, list),
		aCall{"IsColouring", impl.IsColouring, []any{g, k, a}})
}

// farColours are no numbers of colours.
var farColours = []int{0, 6, -1, 7, -5, 1 << 32, 1<<32 + 3, 1 << 40, math.MinInt, math.MinInt + 3, math.MaxInt}

// TestFunctionsOfColoursSucceed: without it, tests of failures might pass for wrong reasons.
func TestFunctionsOfColoursSucceed(t *testing.T) {
	for _, g := range append(smallGraphs(), parted(), twoTriangles(), prism(), cycleOf(5), rowOf(5), complete(5), complete(8), impl.Graph{Size: 8}) {
		for _, k := range allColours {
			all := colouringsOf(g, k)
			if len(all) > impl.MaxStates {
				continue
			}
			calls := append(paletteCalls(g, k), graphCalls(g, firstNumbers(g.Size))[:2]...)
			for _, a := range spread(all, 2) {
				if k > 1 && g.Size > 0 {
					calls = append(calls, colouringCalls(g, k, a, 0, (a[0]+1)%k)...)
				}
				calls = append(calls, walkCalls(g, k, a, a)...)
				calls = append(calls, aCall{"IsColouring", impl.IsColouring, []any{g, k, a}}, renameCall(g, k, a, firstNumbers(k)))
			}
			for _, c := range calls {
				if !c.succeeds() {
					t.Fatal("valid", g, k, c.name, c.arguments)
				}
			}
		}
	}
}

func TestFunctionsOfColoursFailForOtherGraphs(t *testing.T) {
	lists := [][]int{
		nil, {}, {0}, {0, 1}, {0, 1, 2, 0}, {0, 1, 0, 1}, {0, 1, 2, 3}, {1, 0, 2, 3}, {3, 2, 1, 0}, {0, 1, 2, 3, 4, 5, 6}, {0, 1, 2, 3, 4, 5, 6, 7},
		{0, 1, 2, 3, 4, 5, 6, 7, 8}, {0, 1, 0, 1, 0, 1, 0, 1}, {0, 1, 0, 1, 0, 1, 0, 1, 0}, {0, 0, 0, 0}, {-1},
	}
	for _, g := range badGraphs() {
		for _, k := range append([]int{0, 6}, allColours...) {
			for _, a := range lists {
				for _, list := range [][]int{a, {0, 1}, {1, 2}, {0, 1, 2, 3}} {
					failAll(t, colourCalls(g, k, a, 0, 2, list), "no Graph")
				}
				failAll(t, walkCalls(g, k, a, []int{0, 1, 2, 0}), "no Graph")
				failAll(t, chainCalls(g, k, a, 1, 0), "no Graph")
			}
		}
	}
}

func TestFunctionsOfColoursFailForOtherNumbersOfColours(t *testing.T) {
	for _, g := range []impl.Graph{{}, {Size: 1}, {Size: 2}, complete(2), complete(3), complete(5), complete(6), parted(), rowOf(8), {Size: 8}} {
		for _, k := range farColours {
			failAll(t, paletteCalls(g, k), "no number of colours")
			for _, colours := range allColours {
				for _, a := range spread(colouringsOf(g, colours), 3) {
					failAll(t, colouringCalls(g, k, a, 0, 0), "no number of colours")
					failAll(t, colouringCalls(g, k, a, 0, 1), "no number of colours")
					failAll(t, []aCall{{"IsColouring", impl.IsColouring, []any{g, k, a}}}, "no number of colours")
				}
			}
			failAll(t, colouringCalls(g, k, firstNumbers(g.Size), 0, 1), "no number of colours")
			failAll(t, []aCall{{"IsColouring", impl.IsColouring, []any{g, k, firstNumbers(g.Size)}}}, "no number of colours")
		}
	}
}

func TestFunctionsOfColoursFailForListsThatAreNoColourings(t *testing.T) {
	for _, g := range append(graphsOf(3)[:12], parted(), twoTriangles(), prism(), cycleOf(4), complete(5), impl.Graph{Size: 4}) {
		for _, k := range allColours {
			all := colouringsOf(g, k)
			if len(all) > 100 {
				continue
			}
			for _, a := range spread(all, 2) {
				for _, list := range notColourings(g, k, a) {
					failAll(t, colouringCalls(g, k, list, 0, 0), "no colouring")
					failAll(t, colouringCalls(g, k, list, 0, k-1), "no colouring")
					failAll(t, walkCalls(g, k, list, a), "no colouring")
					failAll(t, walkCalls(g, k, a, list)[:2], "no colouring")
				}
			}
			if len(all) == 0 {
				for _, list := range [][]int{nil, {}, make([]int, g.Size), firstNumbers(g.Size)} {
					failAll(t, colouringCalls(g, k, list, 0, k-1), "no colourings")
				}
			}
		}
	}
}

func TestFunctionsOfChainsFailForOtherNodesAndColours(t *testing.T) {
	for _, g := range []impl.Graph{{}, {Size: 1}, {Size: 8}, complete(2), complete(5), parted(), prism(), rowOf(8)} {
		for _, k := range allColours {
			for _, a := range spread(colouringsOf(g, k), 3) {
				for c := range k {
					for _, x := range []int{-1, g.Size, g.Size + 1, impl.MaxNodes, 64, 1 << 32, math.MinInt, math.MaxInt} {
						failAll(t, chainCalls(g, k, a, x, c), "no node")
					}
				}
				for x := range g.Size {
					for _, c := range []int{-1, -2, k, k + 1, impl.MaxColours, 1 << 32, math.MinInt, math.MaxInt} {
						failAll(t, chainCalls(g, k, a, x, c), "no colour")
					}
				}
			}
		}
	}
}

// notOrders returns lists that are near to an order of 0..n-1, but none.
func notOrders(n int) [][]int {
	lists := [][]int{{n}, {-1}, firstNumbers(n + 1), append(firstNumbers(n), 0), make([]int, 1000), make([]int, 100000)}
	if n > 0 {
		lists = append(lists, nil, []int{}, firstNumbers(n-1), firstNumbers(n)[1:])
	}
	for place := range n {
		for _, other := range []int{-1, n, n + 1, impl.MaxNodes, 1 << 32, math.MinInt, math.MaxInt} {
			if other < 0 || other >= n {
				lists = append(lists, withColour(firstNumbers(n), place, other))
			}
		}
		// A number twice and another one not at all, and a number twice in addition to all.
		for other := range n {
			if other != place {
				lists = append(lists, withColour(firstNumbers(n), place, other))
			}
			lists = append(lists, slices.Insert(firstNumbers(n), place, other))
		}
	}
	return lists
}

func TestListsThatAreNoOrders(t *testing.T) {
	for n := range impl.MaxNodes + 1 {
		for _, g := range []impl.Graph{{Size: n}, complete(n), rowOf(n)} {
			for _, list := range notOrders(n) {
				failAll(t, graphCalls(g, list)[1:2], "no order")
			}
		}
	}
	for _, g := range []impl.Graph{{}, {Size: 1}, {Size: 8}, parted(), prism(), complete(5)} {
		for _, k := range allColours {
			for _, a := range spread(colouringsOf(g, k), 3) {
				for _, to := range notOrders(k) {
					failAll(t, []aCall{renameCall(g, k, a, to)}, "no list of colours")
				}
			}
		}
	}
}

// TestMoreColouringsThanMaxStates: only functions of walks and spaces fail for so many.
func TestMoreColouringsThanMaxStates(t *testing.T) {
	for _, g := range append(colourGraphs(), looseTriangle()) {
		for _, k := range allColours {
			all := colouringsOf(g, k)
			if len(all) <= impl.MaxStates {
				continue
			}
			failAll(t, paletteCalls(g, k), "too many")
			for _, a := range spread(all, 3) {
				failAll(t, walkCalls(g, k, a, a), "too many")
				failAll(t, walkCalls(g, k, a, all[1]), "too many")
				for _, c := range append(chainCalls(g, k, a, 0, (a[0]+1)%k), colouringCalls(g, k, a, 0, 0)[5:]...) {
					if !c.succeeds() {
						t.Fatal("no walks", g, k, a, c.name)
					}
				}
				if is, ok := impl.IsColouring(g, k, a); !is || !ok {
					t.Fatal("no walks", g, k, a, is, ok)
				}
				if k == 3 && len(g.Edges) > 0 && !windingCall(g, a, g.Edges[0][:]).succeeds() {
					t.Fatal("no winding", g, a)
				}
			}
		}
	}
}

func TestFunctionsOfColoursKeepMemoryApart(t *testing.T) {
	for _, g := range append(graphsOf(3)[:12], parted(), prism(), cycleOf(5), rowOf(5), complete(5), looseTriangle()) {
		for _, k := range allColours {
			all := colouringsOf(g, k)
			if len(all) > 100 {
				continue
			}
			for _, a := range append(spread(all, 3), []int{0, 0, 0}) {
				for _, b := range append(spread(all, 2), a) {
					for _, c := range walkCalls(g, k, a, b) {
						checkMemory(t, c)
					}
				}
				for _, list := range [][]int{firstNumbers(g.Size), firstNumbers(k), {0, 1}, {2, 0, 1}} {
					for _, c := range colourCalls(g, k, a, 0, k-1, list) {
						checkMemory(t, c)
					}
				}
			}
		}
	}
	for _, g := range append(badGraphs(), parted(), complete(8), impl.Graph{Size: 8}) {
		for _, k := range []int{-1, 0, 1, 2, 5, 6} {
			for _, c := range colourCalls(g, k, []int{1, 0, 0, 1, 1}, 1, 1, []int{1, 0}) {
				checkMemory(t, c)
			}
		}
	}
	for _, c := range append(paletteCalls(looseTriangle(), 5), walkCalls(looseTriangle(), 5, []int{0, 1, 2, 3}, []int{4, 3, 2, 1})...) {
		checkMemory(t, c)
	}
}

func TestNilAndEmptyColouringsAreEquivalent(t *testing.T) {
	for _, g := range []impl.Graph{{}, {Size: 0, Edges: [][2]int{}}} {
		for _, k := range allColours {
			for _, a := range [][]int{nil, {}} {
				for _, b := range [][]int{nil, {}} {
					calls := append(walkCalls(g, k, a, b), graphCalls(g, a)...)
					calls = append(calls, renameCall(g, k, a, firstNumbers(k)))
					for _, c := range append(calls, aCall{"StillNodes", impl.StillNodes, []any{g, k, a}}) {
						if !c.succeeds() {
							t.Error("no nodes", k, c.name)
						}
					}
					failAll(t, append(chainCalls(g, k, a, 0, 0), windingCall(g, a, b)), "no node")
				}
				if is, ok := impl.IsColouring(g, k, a); !is || !ok {
					t.Error("no nodes", k, is, ok)
				}
			}
		}
	}
}
