package tests

import (
	"math"
	"math/rand"
	"slices"
	"testing"

	"loop.example/g01128/impl"
)

// pathCalls returns a call of each function with two nodes, those first that succeed also where
// there is no way.
func pathCalls(g impl.Graph, s int, t int) []aCall {
	return []aCall{
		{"CountWays", impl.CountWays, []any{g, s, t}},
		{"LayersOf", impl.LayersOf, []any{g, s, t}},
		{"ShortestWays", impl.ShortestWays, []any{g, s, t}},
		{"WaySpace", impl.WaySpace, []any{g, s, t}},
	}
}

func wayWalkCall(g impl.Graph, a []int, b []int) aCall {
	return aCall{"WayWalk", impl.WayWalk, []any{g, a, b}}
}

// spanningCalls returns a call of each function with a Graph alone, that first that succeeds also
// where there are no trees or too many.
func spanningCalls(g impl.Graph) []aCall {
	return []aCall{
		{"CountTrees", impl.CountTrees, []any{g}},
		{"SpanningTrees", impl.SpanningTrees, []any{g}},
		{"TreeSpace", impl.TreeSpace, []any{g}},
	}
}

func isTreeCall(g impl.Graph, list []int) aCall { return aCall{"IsTree", impl.IsTree, []any{g, list}} }

func circleCall(g impl.Graph, tree []int, edge int) aCall {
	return aCall{"CircleOf", impl.CircleOf, []any{g, tree, edge}}
}

func cutCall(g impl.Graph, tree []int, edge int) aCall {
	return aCall{"CutOf", impl.CutOf, []any{g, tree, edge}}
}

func treeWalkCall(g impl.Graph, a []int, b []int) aCall {
	return aCall{"TreeWalk", impl.TreeWalk, []any{g, a, b}}
}

// lightCalls returns a call of each function with weights, that first that succeeds also where
// there are too many trees.
func lightCalls(g impl.Graph, weights []int) []aCall {
	return []aCall{{"LightTree", impl.LightTree, []any{g, weights}}, {"LightSpace", impl.LightSpace, []any{g, weights}}}
}

// succeedAll is the other side of failAll: without it, tests of failures might pass for wrong
// reasons.
func succeedAll(t *testing.T, calls []aCall) {
	t.Helper()
	for _, c := range calls {
		if !c.succeeds() {
			t.Error("valid", c.name, c.arguments)
		}
	}
}

func TestFunctionsOfPathsAndTreesSucceed(t *testing.T) {
	random := rand.New(rand.NewSource(98))
	for _, g := range fewTreeGraphs() {
		weights := randomWeights(g, impl.MaxWeight, random)
		trees := spread(treesOf(g), 3)
		succeedAll(t, append(spanningCalls(g), lightCalls(g, weights)...))
		for _, tree := range trees {
			succeedAll(t, []aCall{isTreeCall(g, tree), treeWalkCall(g, tree, trees[0])})
			for edge := range g.Edges {
				inTree := slices.Contains(tree, edge)
				if circleCall(g, tree, edge).succeeds() == inTree || cutCall(g, tree, edge).succeeds() != inTree {
					t.Error("an edge is in the tree or not", g, tree, edge)
				}
			}
		}
		for s := range g.Size {
			way := waysBetween(g, s, 0)[0]
			succeedAll(t, append(pathCalls(g, s, 0), wayWalkCall(g, way, way)))
		}
	}
}

// TestFunctionsOfPathsAndTreesFailForOtherGraphs: the other arguments would do for Graphs that
// are like these.
func TestFunctionsOfPathsAndTreesFailForOtherGraphs(t *testing.T) {
	for _, g := range badGraphs() {
		for _, pair := range [][2]int{{0, 0}, {0, 1}, {1, 0}, {0, 2}, {3, 1}, {7, 8}, {-1, 0}, {g.Size - 1, 0}} {
			failAll(t, pathCalls(g, pair[0], pair[1]), "no Graph")
		}
		for _, way := range [][]int{nil, {}, {0}, {1}, {0, 1}, {1, 0}, {0, 2}, {0, 1, 2}, {2, 1, 0}} {
			failAll(t, []aCall{wayWalkCall(g, way, way)}, "no Graph")
		}
		failAll(t, spanningCalls(g), "no Graph")
		lists := [][]int{nil, {0}, {1}, {0, 1}, {0, 2}, {1, 2}, {0, 1, 2}, numbersBelow(6), numbersBelow(7), numbersBelow(8)}
		for _, list := range lists {
			failAll(t, []aCall{isTreeCall(g, list), treeWalkCall(g, list, list)}, "no Graph")
			for _, edge := range []int{0, 1, 2, 3, 27, -1} {
				failAll(t, []aCall{circleCall(g, list, edge), cutCall(g, list, edge)}, "no Graph")
			}
		}
		for _, weights := range [][]int{nil, {1}, {1, 1}, {1, 1, 1}, make([]int, len(g.Edges))} {
			failAll(t, lightCalls(g, weights), "no Graph")
		}
	}
}

func TestFunctionsOfTreesFailWithoutNodes(t *testing.T) {
	for _, g := range []impl.Graph{{}, {Edges: [][2]int{}}} {
		failAll(t, append(spanningCalls(g), lightCalls(g, nil)...), "no nodes")
		for _, list := range [][]int{nil, {}, {0}, {-1}} {
			failAll(t, []aCall{isTreeCall(g, list), treeWalkCall(g, list, list), circleCall(g, list, 0), cutCall(g, list, 0), wayWalkCall(g, list, list)}, "no nodes")
		}
		failAll(t, pathCalls(g, 0, 0), "no nodes")
	}
}

func TestFunctionsOfGraphsThatAreNotConnected(t *testing.T) {
	for _, g := range []impl.Graph{{Size: 2}, {Size: 8}, parted(), looseTriangle(), twoBlocks(), twoTriangles(), {Size: 3, Edges: [][2]int{{1, 2}}}, {Size: 8, Edges: pairsOf(7)}} {
		if count, ok := impl.CountTrees(g); !ok || count != 0 {
			t.Error("a tree", g, count, ok)
		}
		weights := make([]int, len(g.Edges))
		failAll(t, append(spanningCalls(g)[1:], lightCalls(g, weights)...), "no trees")
		for k := range g.Size + 1 {
			for _, list := range spread(listsOfNumbers(0, len(g.Edges), k), 50) {
				if is, ok := impl.IsTree(g, list); is || !ok {
					t.Error("a tree", g, list, is, ok)
				}
				failAll(t, []aCall{treeWalkCall(g, list, list), circleCall(g, list, 0), cutCall(g, list, 0)}, "no tree")
			}
		}
		failed := 0
		for s := range g.Size {
			for e := range g.Size {
				calls := pathCalls(g, s, e)
				succeedAll(t, calls[:2])
				if len(waysBetween(g, s, e)) == 0 {
					failAll(t, append(calls[2:], wayWalkCall(g, []int{s, e}, []int{s, e})), "no way")
					failed++
				}
			}
		}
		if failed == 0 {
			t.Error("connected", g)
		}
	}
}

func TestFunctionsOfPathsFailForOtherNodes(t *testing.T) {
	for _, g := range append(smallGraphs(), complete(8), cube(), parted(), impl.Graph{Size: 8}) {
		for _, far := range []int{-1, g.Size, g.Size + 1, impl.MaxNodes, 64, 1 << 32, -1 << 32, math.MinInt, math.MaxInt} {
			failAll(t, append(pathCalls(g, far, far), wayWalkCall(g, []int{far}, []int{far})), "no node")
			for node := range g.Size {
				failAll(t, append(pathCalls(g, far, node), pathCalls(g, node, far)...), "no node")
				failAll(t, []aCall{wayWalkCall(g, []int{far, node}, []int{far, node}), wayWalkCall(g, []int{node, far}, []int{node, far})}, "no node")
			}
		}
	}
}

// notWays returns lists that are near to a shortest way, but none with the same ends.
func notWays(g impl.Graph, way []int) [][]int {
	s, e := way[0], way[len(way)-1]
	lists := [][]int{nil, append(slices.Clone(way), e), append([]int{s}, way...), append(slices.Clone(way), s), way[1:], way[:len(way)-1], make([]int, 1000)}
	for _, path := range pathsOf(g, s, e) {
		if len(path) > len(way) && len(lists) < 20 {
			lists = append(lists, path) // a way, but not a shortest one
		}
	}
	for k := range way {
		for _, other := range []int{-1, g.Size, impl.MaxNodes, 1 << 32, 1<<32 + way[k], math.MinInt, math.MaxInt} {
			lists = append(lists, withColour(way, k, other))
		}
		for other := range g.Size {
			if list := withColour(way, k, other); indexOf(waysBetween(g, s, e), list) < 0 {
				lists = append(lists, list)
			}
		}
	}
	if s != e {
		turned := slices.Clone(way)
		slices.Reverse(turned)
		lists = append(lists, turned) // a shortest way between other ends
	}
	return lists
}

func TestWayWalkFailsForOtherLists(t *testing.T) {
	for _, g := range append(smallGraphs(), cycleOf(6), cube(), parted(), rowOf(8), twoSides(3), layeredGraph(1, 3, 3, 1)) {
		for s := range g.Size {
			for e := range min(g.Size, 4) {
				for _, way := range spread(waysBetween(g, s, e), 2) {
					for _, list := range notWays(g, way) {
						failAll(t, []aCall{wayWalkCall(g, way, list), wayWalkCall(g, list, way)}, "no shortest way")
					}
				}
			}
		}
	}
	for _, list := range [][]int{nil, {}, {0, 2}, {0, 1, 2, 3}, {3, 3}, {0, 1, 0}} {
		failAll(t, []aCall{wayWalkCall(cycleOf(4), list, list)}, "no shortest way")
	}
}

func TestFunctionsFailForListsThatAreNoTrees(t *testing.T) {
	random := rand.New(rand.NewSource(99))
	for _, g := range connectedGraphs() {
		for _, tree := range someTrees(g, 2, random)[:1] {
			for _, list := range notTrees(g, tree) {
				failAll(t, []aCall{treeWalkCall(g, list, tree), treeWalkCall(g, tree, list), treeWalkCall(g, list, list)}, "no tree")
				for edge := range g.Edges {
					failAll(t, []aCall{circleCall(g, list, edge), cutCall(g, list, edge)}, "no tree")
				}
			}
		}
	}
}

func TestCircleOfAndCutOfOtherEdges(t *testing.T) {
	random := rand.New(rand.NewSource(100))
	for _, g := range connectedGraphs() {
		for _, tree := range someTrees(g, 4, random) {
			for _, edge := range tree {
				failAll(t, []aCall{circleCall(g, tree, edge)}, "an edge of the tree")
			}
			for _, edge := range notIn(numbersBelow(len(g.Edges)), tree) {
				failAll(t, []aCall{cutCall(g, tree, edge)}, "no edge of the tree")
			}
			for _, far := range []int{-1, -2, len(g.Edges), len(g.Edges) + 1, 28, 64, 1 << 32, math.MinInt, math.MaxInt} {
				failAll(t, []aCall{circleCall(g, tree, far), cutCall(g, tree, far)}, "no edge")
			}
		}
	}
}

func TestFunctionsFailForListsThatAreNoWeights(t *testing.T) {
	for _, g := range append(fewTreeGraphs(), complete(8), cube()) {
		n := len(g.Edges)
		for _, weight := range []int{0, impl.MaxWeight} {
			lists := [][]int{slices.Repeat([]int{weight}, n+1), slices.Repeat([]int{weight}, n+2), slices.Repeat([]int{weight}, 1000)}
			if n > 0 {
				lists = append(lists, nil, slices.Repeat([]int{weight}, n-1))
			}
			for k := range n {
				for _, far := range []int{-1, 100, impl.MaxWeight + 1, -impl.MaxWeight, 1 << 32, 1<<32 + 1, -1 << 32, math.MinInt, math.MaxInt} {
					lists = append(lists, withColour(slices.Repeat([]int{weight}, n), k, far))
				}
			}
			for _, list := range lists {
				failAll(t, lightCalls(g, list), "no weights")
			}
		}
	}
}

func TestFunctionsOfPathsKeepMemoryApart(t *testing.T) {
	for _, g := range slices.Concat(smallGraphs()[:40], layeredGraphs(), badGraphs(), []impl.Graph{complete(8), cube(), cycleOf(6), parted()}) {
		for _, pair := range [][2]int{{0, 0}, {0, g.Size - 1}, {g.Size - 1, 0}, {0, 3}, {2, 1}, {-1, 8}} {
			calls := append(pathCalls(g, pair[0], pair[1]), wayWalkCall(g, []int{0, 2}, []int{0, 1, 2}))
			if ways, ok := impl.ShortestWays(g, pair[0], pair[1]); ok {
				for _, b := range spread(ways, 3) {
					calls = append(calls, wayWalkCall(g, ways[0], b), wayWalkCall(g, b, ways[0]))
				}
			}
			for _, c := range calls {
				checkMemory(t, c)
			}
		}
	}
}

func TestFunctionsOfTreesKeepMemoryApart(t *testing.T) {
	random := rand.New(rand.NewSource(101))
	graphs := slices.Concat(smallGraphs()[:20], spreadGraphs(fewTreeGraphs(), 30), badGraphs(), []impl.Graph{complete(8), cube(), parted(), graphWithMaxTrees(), graphWithOneTreeMore()})
	for _, g := range graphs {
		calls := append(spanningCalls(g), lightCalls(g, make([]int, len(g.Edges)))...)
		calls = append(calls, lightCalls(g, randomWeights(g, 2, random))...)
		calls = append(calls, lightCalls(g, []int{100, 1, 0})...)
		lists := [][]int{{}, {0, 1}, {2, 0}}
		if impl.IsGraph(g) && countOf(g) > 0 {
			lists = append(lists, someTrees(g, 2, random)...)
		}
		for _, a := range spread(lists, 6) {
			calls = append(calls, isTreeCall(g, a))
			for _, b := range spread(lists, 6) {
				calls = append(calls, treeWalkCall(g, a, b))
			}
			for edge := -1; edge <= len(g.Edges); edge += 2 {
				calls = append(calls, circleCall(g, a, edge), cutCall(g, a, edge+1))
			}
		}
		for _, c := range calls {
			checkMemory(t, c)
		}
	}
}

// spreadGraphs returns some Graphs of a list, its ends among them.
func spreadGraphs(list []impl.Graph, most int) []impl.Graph {
	some := []impl.Graph{}
	for k := range most {
		some = append(some, list[k*(len(list)-1)/(most-1)])
	}
	return some
}

// TestNilAndEmptyListsOfTreesAreEquivalent, of edges, trees and weights.
func TestNilAndEmptyListsOfTreesAreEquivalent(t *testing.T) {
	for _, edges := range [][][2]int{nil, {}} {
		g := impl.Graph{Size: 1, Edges: edges}
		for _, a := range [][]int{nil, {}} {
			succeedAll(t, append(spanningCalls(g), lightCalls(g, a)...))
			for _, b := range [][]int{nil, {}} {
				succeedAll(t, []aCall{isTreeCall(g, a), treeWalkCall(g, a, b)})
				failAll(t, []aCall{wayWalkCall(g, a, b), circleCall(g, a, 0), cutCall(g, b, 0)}, "no way and no edge")
			}
		}
	}
}
