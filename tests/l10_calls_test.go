package tests

import (
	"math"
	"slices"
	"testing"

	"loop.example/g01128/impl"
)

func isMapCall(pair graphPair, list []int, lazy bool) aCall {
	return aCall{"IsMap", impl.IsMap, []any{pair.g, pair.h, list, lazy}}
}

func countMapsCall(pair graphPair, lazy bool) aCall {
	return aCall{"CountMaps", impl.CountMaps, []any{pair.g, pair.h, lazy}}
}

func firstMapCall(pair graphPair, lazy bool) aCall {
	return aCall{"FirstMap", impl.FirstMap, []any{pair.g, pair.h, lazy}}
}

func mapSpaceCall(pair graphPair, lazy bool) aCall {
	return aCall{"MapSpace", impl.MapSpace, []any{pair.g, pair.h, lazy}}
}

func mapWayCall(pair graphPair, a []int, b []int, lazy bool) aCall {
	return aCall{"MapWay", impl.MapWay, []any{pair.g, pair.h, a, b, lazy}}
}

func afterCall(c graphTriple, a []int, b []int, lazy bool) aCall {
	return aCall{"AfterMap", impl.AfterMap, []any{c.g, c.h, c.k, a, b, lazy}}
}

// foldCalls returns calls of the functions that tell how a Graph is folded.
func foldCalls(h impl.Graph) []aCall {
	return []aCall{{"CanFold", impl.CanFold, []any{h}}, {"FoldOrder", impl.FoldOrder, []any{h}}}
}

func cycleCall(n int) aCall { return aCall{"CycleOf", impl.CycleOf, []any{n}} }

func isClosedCall(n int, walk []int, lazy bool) aCall {
	return aCall{"IsClosedWalk", impl.IsClosedWalk, []any{n, walk, lazy}}
}

func turnWalkCall(n int, walk []int, by int) aCall {
	return aCall{"TurnWalk", impl.TurnWalk, []any{n, walk, by}}
}

// walkCallsAround returns a call of each function with one walk, but for IsClosedWalk.
func walkCallsAround(n int, walk []int) []aCall {
	return []aCall{
		{"HeightsOf", impl.HeightsOf, []any{n, walk}},
		{"WalkWinding", impl.WalkWinding, []any{n, walk}},
		{"SlackOf", impl.SlackOf, []any{n, walk}},
		{"BackWalk", impl.BackWalk, []any{n, walk}},
		turnWalkCall(n, walk, 0),
	}
}

func labelsCall(m int, n int) aCall { return aCall{"WindingLabels", impl.WindingLabels, []any{m, n}} }

func sameClassCall(n int, a []int, b []int) aCall {
	return aCall{"SameClass", impl.SameClass, []any{n, a, b}}
}

// graphMapCalls returns a call of each function with two Graphs alone.
func graphMapCalls(pair graphPair, lazy bool) []aCall {
	return []aCall{countMapsCall(pair, lazy), firstMapCall(pair, lazy), mapSpaceCall(pair, lazy)}
}

// mapCalls returns all calls with two Graphs and a map between them.
func mapCalls(pair graphPair, list []int, lazy bool) []aCall {
	same := numbersBelow(min(max(pair.h.Size, 0), impl.MaxNodes+1))
	return append(graphMapCalls(pair, lazy), isMapCall(pair, list, lazy), mapWayCall(pair, list, list, lazy), afterCall(graphTriple{pair.g, pair.h, pair.h}, list, same, lazy))
}

// TestFunctionsOfMapsSucceed: without it, tests of failures might pass for wrong reasons.
func TestFunctionsOfMapsSucceed(t *testing.T) {
	for _, pair := range mapPairs() {
		for _, lazy := range bothSorts {
			succeedAll(t, []aCall{countMapsCall(pair, lazy), isMapCall(pair, nil, lazy)})
			first, ok := impl.FirstMap(pair.g, pair.h, lazy)
			if count, _ := impl.CountMaps(pair.g, pair.h, lazy); ok && count <= impl.MaxStates && pair.h.Size <= impl.MaxSource {
				succeedAll(t, mapCalls(pair, first, lazy))
			}
		}
	}
	for _, h := range foldGraphs() {
		succeedAll(t, foldCalls(h))
	}
	for _, n := range allCycles {
		succeedAll(t, []aCall{cycleCall(n), isClosedCall(n, nil, false), labelsCall(3, n), labelsCall(6, n)})
		for _, walk := range [][]int{make([]int, 3), numbersBelow(n), make([]int, impl.MaxWalk), slices.Repeat([]int{n - 1, 0}, impl.MaxWalk/2)} {
			succeedAll(t, append(walkCallsAround(n, walk), isClosedCall(n, walk, false)))
		}
		if n != 4 {
			succeedAll(t, []aCall{sameClassCall(n, numbersBelow(n), numbersBelow(n)), sameClassCall(n, []int{0, 1, 0, 1}, []int{1, 0, 1, 0})})
		}
	}
}

// TestFunctionsOfMapsFailForOtherGraphs at each of their places: the lists would do for Graphs that
// are like these.
func TestFunctionsOfMapsFailForOtherGraphs(t *testing.T) {
	lists := [][]int{nil, {0}, make([]int, 2), {0, 1}, {1, 0, 1}, make([]int, 4), {0, 1, 2, 3}, {0, 1, 0, 1}, make([]int, 6), numbersBelow(6), make([]int, 7), make([]int, 8), numbersBelow(8), make([]int, 9)}
	for _, bad := range badGraphs() {
		failAll(t, foldCalls(bad), "no Graph")
		for _, good := range []impl.Graph{{}, {Size: 1}, rowOf(2), rowOf(3), complete(4), {Size: 4}, complete(6)} {
			for _, lazy := range bothSorts {
				for _, list := range lists {
					failAll(t, mapCalls(graphPair{bad, good}, list, lazy), "no first Graph")
					failAll(t, mapCalls(graphPair{good, bad}, list, lazy), "no second Graph")
					same := numbersBelow(good.Size)
					failAll(t, []aCall{afterCall(graphTriple{good, good, bad}, same, list, lazy), afterCall(graphTriple{good, good, bad}, same, same, lazy), afterCall(graphTriple{bad, good, good}, list, same, lazy), afterCall(graphTriple{good, bad, good}, same, list, lazy)}, "no third Graph")
				}
				failAll(t, mapCalls(graphPair{bad, bad}, nil, lazy), "no Graphs")
			}
		}
	}
	for _, edges := range [][][2]int{nil, {}} {
		failAll(t, foldCalls(impl.Graph{Edges: edges}), "no nodes")
	}
}

// TestFunctionsOfMapsFailForMoreNodes than MaxSource in the first Graph, also where there would be few
// maps.
func TestFunctionsOfMapsFailForMoreNodes(t *testing.T) {
	for _, g := range greaterGraphs() {
		for _, h := range []impl.Graph{{}, {Size: 1}, rowOf(2), complete(3), {Size: 8}, g} {
			for _, lazy := range bothSorts {
				lists := [][]int{make([]int, g.Size), numbersBelow(g.Size), nil, make([]int, 6)}
				if h.Size == 2 {
					parity, _ := impl.ParityOf(nodesAsStates(g))
					lists = append(lists, parity)
				}
				for _, list := range lists {
					failAll(t, mapCalls(graphPair{g, h}, list, lazy), "more than MaxSource nodes")
				}
			}
		}
		// The second Graph may have more.
		succeedAll(t, []aCall{countMapsCall(graphPair{rowOf(3), g}, false), countMapsCall(graphPair{rowOf(3), g}, true), isMapCall(graphPair{impl.Graph{Size: 6}, g}, make([]int, 6), false), mapSpaceCall(graphPair{complete(2), g}, true)})
	}
}

func TestFunctionsOfWalksFailForOtherCycles(t *testing.T) {
	for _, n := range farCycles {
		walks := [][]int{nil, make([]int, 3), {0, 1, 2}, {0, 1, 0, 1}, {1, 0, 0}, numbersBelow(8), numbersBelow(9), make([]int, impl.MaxWalk), {n, n, n}}
		if 0 < n && n < 20 {
			walks = append(walks, numbersBelow(n), []int{0, n - 1, 0, n - 1})
		}
		for _, walk := range walks {
			calls := append(walkCallsAround(n, walk), isClosedCall(n, walk, false), isClosedCall(n, walk, true), sameClassCall(n, walk, walk), cycleCall(n))
			failAll(t, append(calls, turnWalkCall(n, walk, 1), turnWalkCall(n, walk, n-1)), "no cycle")
		}
	}
}

// notWalks returns lists that are near to a closed walk, but none, lazy or not.
func notWalks(n int, walk []int) [][]int {
	lists := [][]int{nil, walk[:1], walk[:2], make([]int, impl.MaxWalk+1), slices.Repeat([]int{0, 1}, 13), make([]int, 1000), slices.Repeat(numbersBelow(n), 9)}
	for k, node := range walk {
		for _, far := range []int{-1, n, n + 1, -n, node + n, node - n, node + 1<<32, node - 1<<32, math.MinInt, math.MinInt + node, math.MaxInt} {
			lists = append(lists, withColour(walk, k, far))
		}
		for other := range n {
			if near := withColour(walk, k, other); !isWalkAround(n, near, true) {
				lists = append(lists, near)
			}
		}
	}
	for _, list := range [][]int{walk[1:], append(slices.Clone(walk), (walk[0]+2)%n)} {
		if !isWalkAround(n, list, true) {
			lists = append(lists, list)
		}
	}
	return lists
}

func TestFunctionsOfWalksFailForOtherLists(t *testing.T) {
	for _, n := range allCycles {
		for k, walk := range walksAround(n) {
			if k%25 > 0 && len(walk.nodes) > 5 {
				continue
			}
			for _, list := range notWalks(n, walk.nodes) {
				checkIsClosedWalk(t, n, list, true, false)
				checkIsClosedWalk(t, n, list, false, false)
				failAll(t, append(walkCallsAround(n, list), sameClassCall(n, walk.nodes, list), sameClassCall(n, list, walk.nodes), sameClassCall(n, list, list)), "no closed walk")
			}
		}
		// Only the last node is no neighbor of the first one.
		if n > 3 {
			for length := 3; length < n; length++ {
				checkIsClosedWalk(t, n, numbersBelow(length), true, false)
				failAll(t, walkCallsAround(n, numbersBelow(length)), "no way back")
			}
		}
	}
}

func TestFunctionsOfMapsKeepMemoryApart(t *testing.T) {
	pairs := append(smallMapPairs(), graphPair{rowOf(6), rowOf(2)}, graphPair{cycleOf(4), cycleOf(5)}, graphPair{complete(6), impl.Graph{Size: 8}}, graphPair{cycleOf(5), complete(3)}, graphPair{rowOf(7), rowOf(2)}, graphPair{impl.Graph{Size: 3}, impl.Graph{Size: 7}})
	for _, bad := range badGraphs() {
		pairs = append(pairs, graphPair{bad, rowOf(2)}, graphPair{rowOf(2), bad})
	}
	for _, pair := range pairs {
		for _, lazy := range bothSorts {
			lists := [][]int{nil, {0}, {0, 1}, {1, 0, 1}, {0, 1, 2}, {-1}, {0, 1, 0, 1, 0, 1}, {0, 1, 0, 4}}
			if x, ok := impl.MapSpace(pair.g, pair.h, lazy); ok {
				lists = append(lists, spread(x.States, 4)...)
			}
			for _, a := range lists {
				for _, c := range append(mapCalls(pair, a, lazy), mapWayCall(pair, lists[len(lists)-1], a, lazy), afterCall(graphTriple{pair.g, pair.h, rowOf(3)}, a, lists[len(lists)-1], lazy)) {
					checkMemory(t, c)
				}
			}
		}
	}
}

func TestFunctionsOfFoldsAndWalksKeepMemoryApart(t *testing.T) {
	for _, h := range slices.Concat(smallGraphs(), badGraphs(), chosenMatchingGraphs(), []impl.Graph{spokes()}) {
		for _, c := range foldCalls(h) {
			checkMemory(t, c)
		}
	}
	for _, n := range append(slices.Clone(farCycles), allCycles...) {
		calls := []aCall{cycleCall(n), labelsCall(n, 3), labelsCall(4, n), labelsCall(6, n)}
		lists := [][]int{nil, {0, 1}, {0, 1, 2}, {2, 1, 0}, {0, 0, 0}, {0, 1, 0, 1}, {1, 2, 2, 1}, {0, 1, 2, 3, 4}, {-1, 0, 1}, make([]int, 24), make([]int, 25)}
		if slices.Contains(allCycles, n) {
			lists = append(lists, numbersBelow(n), reversed(numbersBelow(n)))
		}
		for _, a := range lists {
			calls = append(append(calls, walkCallsAround(n, a)...), isClosedCall(n, a, false), isClosedCall(n, a, true), turnWalkCall(n, a, 1), turnWalkCall(n, a, -1))
			for _, b := range lists {
				calls = append(calls, sameClassCall(n, a, b))
			}
		}
		for _, c := range calls {
			checkMemory(t, c)
		}
	}
}

// TestNilAndEmptyListsOfMapsAreEquivalent, of values, nodes and edges.
func TestNilAndEmptyListsOfMapsAreEquivalent(t *testing.T) {
	for _, edges := range [][][2]int{nil, {}} {
		none, one := impl.Graph{Edges: edges}, impl.Graph{Size: 1, Edges: edges}
		for _, list := range [][]int{nil, {}} {
			for _, lazy := range bothSorts {
				for _, pair := range []graphPair{{none, none}, {none, one}} {
					checkIsMap(t, pair, list, lazy, true)
					succeedAll(t, mapCalls(pair, list, lazy))
				}
				for _, pair := range []graphPair{{one, none}, {one, one}} {
					checkIsMap(t, pair, list, lazy, false)
					failAll(t, []aCall{mapWayCall(pair, list, list, lazy)}, "too short")
				}
				failAll(t, []aCall{firstMapCall(graphPair{one, none}, lazy)}, "no map")
			}
			checkIsClosedWalk(t, 3, list, true, false)
			failAll(t, append(walkCallsAround(3, list), sameClassCall(3, list, list)), "too short")
		}
		succeedAll(t, foldCalls(one))
		failAll(t, foldCalls(none), "no nodes")
	}
}
