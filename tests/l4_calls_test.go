package tests

import (
	"math"
	"slices"
	"testing"

	"loop.example/g01128/impl"
)

// spaceCalls returns a call of each function with a number.
func spaceCalls(g impl.Graph, kind int, k int) []aCall {
	return []aCall{
		{"ThresholdSpace", impl.ThresholdSpace, []any{g, kind, k}},
		{"ExchangeSpace", impl.ExchangeSpace, []any{g, kind, k}},
		{"KindSlides", impl.KindSlides, []any{g, kind, k}},
	}
}

// pairCalls returns a call of each function with two sets of a kind.
func pairCalls(g impl.Graph, kind int, a []int, b []int) []aCall {
	return []aCall{
		{"ThresholdOf", impl.ThresholdOf, []any{g, kind, a, b}},
		{"ThresholdWay", impl.ThresholdWay, []any{g, kind, a, b}},
		{"ExchangeWay", impl.ExchangeWay, []any{g, kind, a, b}},
	}
}

// kindSetCalls returns a call of each function with sets of a kind.
func kindSetCalls(g impl.Graph, kind int, a []int, b []int) []aCall {
	return append(pairCalls(g, kind, a, b),
		aCall{"IsTightSet", impl.IsTightSet, []any{g, kind, a}},
		aCall{"GreedyTight", impl.GreedyTight, []any{g, kind, a}},
		aCall{"KindWays", impl.KindWays, []any{g, kind, a}})
}

// kindCalls returns a call of each function with a kind.
func kindCalls(g impl.Graph, kind int, k int, a []int, b []int) []aCall {
	return append(append(kindSetCalls(g, kind, a, b), spaceCalls(g, kind, k)...),
		aCall{"HasKind", impl.HasKind, []any{g, kind, a}},
		aCall{"BestOfKind", impl.BestOfKind, []any{g, kind}},
		aCall{"TightSets", impl.TightSets, []any{g, kind}},
		aCall{"WideNumber", impl.WideNumber, []any{g, kind}})
}

// coverCalls returns a call of each function of the chapter.
func coverCalls(g impl.Graph, kind int, k int, a []int, b []int) []aCall {
	return append(kindCalls(g, kind, k, a, b),
		aCall{"OtherNodes", impl.OtherNodes, []any{g, a}},
		aCall{"CliqueGraph", impl.CliqueGraph, []any{g}})
}

// failAll checks that all calls fail, with zero values.
func failAll(t *testing.T, calls []aCall, why string) {
	t.Helper()
	for _, c := range calls {
		if !c.fails() {
			t.Error(why, c.name, c.arguments, c.results())
		}
	}
}

// farKinds are no kinds.
var farKinds = []int{0, 4, -1, 5, -2, 1 << 32, 1<<32 + 1, math.MinInt, math.MinInt + 1, math.MaxInt}

func TestFunctionsOfKindsSucceed(t *testing.T) {
	for _, g := range append(smallGraphs(), parted(), twoTriangles(), rowOf(8), complete(8), impl.Graph{Size: 8}) {
		for _, kind := range allKinds {
			sets := kindSets(g, kind, 0, g.Size)
			for _, set := range [][]int{sets[0], sets[len(sets)/2], sets[len(sets)-1]} {
				for k := range g.Size + 1 {
					for _, c := range coverCalls(g, kind, k, set, set) {
						if !c.succeeds() {
							t.Fatal("valid", g, kind, k, set, c.name)
						}
					}
				}
			}
		}
	}
}

func TestFunctionsOfKindsFailForOtherGraphs(t *testing.T) {
	for _, g := range badGraphs() {
		for _, kind := range append(slices.Clone(allKinds), 0, 4) {
			for _, set := range [][]int{nil, {}, {0}, {3}, {0, 1}, {0, 1, 2, 3}, {0, 1, 2, 3, 4, 5, 6, 7}, {1, 0}, {-1}} {
				for _, k := range []int{0, 1, len(set), impl.MaxNodes, -1} {
					failAll(t, coverCalls(g, kind, k, set, set), "no Graph")
				}
			}
		}
	}
}

func TestFunctionsOfKindsFailForOtherKinds(t *testing.T) {
	for _, g := range []impl.Graph{{}, {Size: 1}, {Size: 8}, parted(), rowOf(8), complete(8), twoTriangles()} {
		all := setOf(1<<g.Size - 1)
		for _, kind := range farKinds {
			for _, set := range [][]int{{}, all, all[:min(len(all), 1)], all[:min(len(all), 2)]} {
				for _, k := range []int{0, len(set), g.Size} {
					failAll(t, kindCalls(g, kind, k, set, set), "no kind")
					failAll(t, kindCalls(g, kind, k, set, all), "no kind")
				}
			}
		}
	}
}

// spoiled returns lists with the nodes of a set that are no sets themselves: out of order, with
// a node twice, and with numbers that are no nodes.
func spoiled(size int, set []int) [][]int {
	lists := [][]int{}
	for _, far := range []int{size, size + 1, impl.MaxNodes, 31, 32, 63, 64, 65, 128, 1 << 32, math.MaxInt} {
		if far >= size {
			lists = append(lists, append(slices.Clone(set), far))
		}
	}
	for _, far := range []int{-1, -2, -64, math.MinInt} {
		lists = append(lists, append([]int{far}, set...))
	}
	for k, node := range set {
		lists = append(lists, slices.Insert(slices.Clone(set), k, node))
		if k > 0 {
			swapped := slices.Clone(set)
			swapped[k-1], swapped[k] = swapped[k], swapped[k-1]
			lists = append(lists, swapped, append(slices.Clone(set), node), append([]int{node}, set...))
		}
	}
	if len(set) > 2 {
		turned := slices.Clone(set)
		slices.Reverse(turned)
		lists = append(lists, turned, append(slices.Clone(set[1:]), set[0]))
	}
	return append(lists, slices.Repeat([]int{0}, 1000))
}

// TestFunctionsOfKindsFailForListsThatAreNoSets: the nodes alone would do, in most of the lists.
func TestFunctionsOfKindsFailForListsThatAreNoSets(t *testing.T) {
	for _, g := range []impl.Graph{{}, {Size: 1}, {Size: 3}, parted(), twoTriangles(), complete(4), twoSides(4)} {
		for _, kind := range allKinds {
			sets := kindSets(g, kind, 0, g.Size)
			for _, set := range [][]int{sets[0], sets[len(sets)/2]} {
				for _, list := range spoiled(g.Size, set) {
					failAll(t, kindSetCalls(g, kind, list, set), "no set")
					failAll(t, kindSetCalls(g, kind, list, list), "no set")
					failAll(t, pairCalls(g, kind, set, list), "no set")
					failAll(t, []aCall{
						{"HasKind", impl.HasKind, []any{g, kind, list}},
						{"OtherNodes", impl.OtherNodes, []any{g, list}},
					}, "no set")
				}
			}
		}
	}
}

func TestFunctionsOfKindsFailForSetsWithoutTheKind(t *testing.T) {
	for _, g := range append(smallGraphs(), parted(), twoTriangles(), rowOf(6)) {
		for _, kind := range allKinds {
			sets := kindSets(g, kind, 0, g.Size)
			for _, other := range otherSets(g, kind) {
				if has, ok := impl.HasKind(g, kind, other); has || !ok {
					t.Error("has", g, kind, other, has, ok)
				}
				failAll(t, kindSetCalls(g, kind, other, other), "not of the kind")
				for _, set := range sets[:min(len(sets), 16)] {
					failAll(t, kindSetCalls(g, kind, other, set), "not of the kind")
					failAll(t, pairCalls(g, kind, set, other), "not of the kind")
				}
			}
		}
	}
}

func TestFunctionsOfKindsKeepMemoryApart(t *testing.T) {
	for _, g := range append(graphsOf(3)[:12], parted(), twoTriangles(), rowOf(6), starOf(5), complete(5), impl.Graph{Size: 5}) {
		for _, kind := range allKinds {
			sets := kindSets(g, kind, 0, g.Size)
			for k, a := range sets[:min(len(sets), 12)] {
				for _, b := range [][]int{a, sets[(k+1)%len(sets)], sets[len(sets)-1-k], {1, 0}, {}} {
					for _, c := range coverCalls(g, kind, len(a), a, b) {
						checkMemory(t, c)
					}
				}
			}
		}
	}
	for _, g := range append(badGraphs(), parted(), complete(8)) {
		for _, kind := range []int{0, 1, 2, 3, 4} {
			for _, k := range []int{-1, 0, 2, 9} {
				for _, c := range coverCalls(g, kind, k, []int{0, 2}, []int{2, 1}) {
					checkMemory(t, c)
				}
			}
		}
	}
}

// TestNilAndEmptyListsAreEquivalent, in Graphs and as sets.
func TestNilAndEmptyListsAreEquivalent(t *testing.T) {
	g := impl.Graph{Size: 3, Edges: [][2]int{}}
	for _, set := range [][]int{nil, {}} {
		for _, other := range [][]int{nil, {}} {
			for _, kind := range []int{impl.KindCover, impl.KindClique} {
				for _, c := range coverCalls(g, kind, 0, set, other) {
					if !c.succeeds() {
						t.Error("an empty set", kind, c.name)
					}
				}
			}
			failAll(t, kindSetCalls(g, impl.KindDominates, set, other), "does not dominate")
		}
	}
}
