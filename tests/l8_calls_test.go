package tests

import (
	"math"
	"slices"
	"testing"

	"loop.example/g01128/impl"
)

// matchingCalls returns a call of each function of matchings with a Graph alone.
func matchingCalls(g impl.Graph) []aCall {
	return []aCall{
		{"LargestMatching", impl.LargestMatching, []any{g}},
		{"PerfectMatchings", impl.PerfectMatchings, []any{g}},
		{"SquareSpace", impl.SquareSpace, []any{g}},
		{"CycleSpace", impl.CycleSpace, []any{g}},
	}
}

func matchingSpaceCall(g impl.Graph, k int) aCall {
	return aCall{"MatchingSpace", impl.MatchingSpace, []any{g, k}}
}

func isMatchingCall(g impl.Graph, list []int) aCall {
	return aCall{"IsMatching", impl.IsMatching, []any{g, list}}
}

func piecesCall(g impl.Graph, a []int, b []int) aCall {
	return aCall{"DifferencePieces", impl.DifferencePieces, []any{g, a, b}}
}

func alternatingCall(g impl.Graph, a []int, b []int) aCall {
	return aCall{"AlternatingCycle", impl.AlternatingCycle, []any{g, a, b}}
}

// polygonCalls returns a call of each function with the corners alone.
func polygonCalls(n int) []aCall {
	return []aCall{{"PolygonSpace", impl.PolygonSpace, []any{n}}, {"CountTriangulations", impl.CountTriangulations, []any{n}}}
}

func isTriangulationCall(n int, list []int) aCall {
	return aCall{"IsTriangulation", impl.IsTriangulation, []any{n, list}}
}

func fanCall(n int, corner int) aCall { return aCall{"FanOf", impl.FanOf, []any{n, corner}} }

func flipCall(n int, list []int, diagonal int) aCall {
	return aCall{"FlipDiagonal", impl.FlipDiagonal, []any{n, list, diagonal}}
}

func turnCall(n int, list []int, by int, mirror bool) aCall {
	return aCall{"TurnTriangulation", impl.TurnTriangulation, []any{n, list, by, mirror}}
}

// turnCalls returns all calls with the first and the last turn.
func turnCalls(n int, list []int) []aCall {
	return []aCall{turnCall(n, list, 0, false), turnCall(n, list, 0, true), turnCall(n, list, n-1, false), turnCall(n, list, n-1, true)}
}

func earsCall(n int, list []int) aCall { return aCall{"EarsOf", impl.EarsOf, []any{n, list}} }

// polygonPairCalls returns a call of each function with two triangulations.
func polygonPairCalls(n int, a []int, b []int) []aCall {
	return []aCall{
		{"PolygonDistance", impl.PolygonDistance, []any{n, a, b}},
		{"FanBound", impl.FanBound, []any{n, a, b}},
		{"CrossingsOf", impl.CrossingsOf, []any{n, a, b}},
		{"CommonDiagonals", impl.CommonDiagonals, []any{n, a, b}},
	}
}

// farCorners are no numbers of corners.
var farCorners = []int{2, 9, 1, 0, -1, -3, -8, 10, 11, 20, 1 << 32, 1<<32 + 5, 5 - 1<<32, math.MinInt, math.MinInt + 5, math.MaxInt}

func TestFunctionsOfMatchingsSucceed(t *testing.T) {
	cycles := 0
	for _, g := range matchingGraphs() {
		succeedAll(t, matchingCalls(g))
		list := spread(pairsToCompare(g), 12)
		for _, a := range list {
			succeedAll(t, []aCall{isMatchingCall(g, a), isMatchingCall(g, append(slices.Clone(a), -1))})
			for _, b := range list {
				succeedAll(t, []aCall{piecesCall(g, a, b)})
				bothPerfect := 2*len(a) == g.Size && 2*len(b) == g.Size
				c := alternatingCall(g, a, b)
				if bothPerfect && !slices.Equal(a, b) {
					succeedAll(t, []aCall{c})
					cycles++
				} else {
					failAll(t, []aCall{c}, "not perfect, or the same")
				}
			}
		}
	}
	if cycles < 100 {
		t.Error("too few", cycles)
	}
}

// TestFunctionsOfMatchingsFailForOtherGraphs: the other arguments would do for Graphs that are
// like these.
func TestFunctionsOfMatchingsFailForOtherGraphs(t *testing.T) {
	lists := [][]int{nil, {}, {0}, {1}, {2}, {0, 1}, {0, 2}, {1, 2}, {-1}, {28}, numbersBelow(4)}
	for _, g := range badGraphs() {
		failAll(t, matchingCalls(g), "no Graph")
		for _, k := range []int{0, 1, 2, 4, 8, -1, 9} {
			failAll(t, []aCall{matchingSpaceCall(g, k)}, "no Graph")
		}
		for _, a := range lists {
			failAll(t, []aCall{isMatchingCall(g, a)}, "no Graph")
			for _, b := range lists {
				failAll(t, []aCall{piecesCall(g, a, b), alternatingCall(g, a, b)}, "no Graph")
			}
		}
	}
}

func TestMatchingSpaceFailsForOtherNumbers(t *testing.T) {
	for _, g := range matchingGraphs() {
		for _, k := range []int{-1, -2, impl.MaxNodes + 1, 10, 64, 1 << 32, 1<<32 + 1, -1 << 32, math.MinInt, math.MaxInt} {
			failAll(t, []aCall{matchingSpaceCall(g, k)}, "no number of edges")
		}
	}
}

func TestFunctionsFailForListsThatAreNoMatchings(t *testing.T) {
	for _, g := range matchingGraphs() {
		perfect := perfectOf(g)
		for _, matching := range append(spread(allMatchings(g), 4), spread(perfect, 3)...) {
			for _, list := range notMatchings(g, matching) {
				for _, other := range append([][]int{matching, list, nil}, spread(perfect, 2)...) {
					failAll(t, []aCall{piecesCall(g, matching, list), piecesCall(g, list, matching), piecesCall(g, list, other), piecesCall(g, other, list)}, "no matching")
					failAll(t, []aCall{alternatingCall(g, matching, list), alternatingCall(g, list, matching), alternatingCall(g, list, other), alternatingCall(g, other, list)}, "no matching")
				}
			}
		}
	}
}

// TestAlternatingCycleFailsForOtherMatchings: one of both may be perfect.
func TestAlternatingCycleFailsForOtherMatchings(t *testing.T) {
	mixed := 0
	for _, g := range matchingGraphs() {
		all := spread(allMatchings(g), 30)
		isPerfect := func(list []int) bool { return 2*len(list) == g.Size }
		for _, a := range slices.DeleteFunc(slices.Clone(all), isPerfect) {
			for _, b := range all {
				failAll(t, []aCall{alternatingCall(g, a, b), alternatingCall(g, b, a)}, "not perfect")
			}
			for _, b := range spread(perfectOf(g), 4) {
				failAll(t, []aCall{alternatingCall(g, a, b), alternatingCall(g, b, a)}, "one is not perfect")
				mixed++
			}
		}
		for _, a := range perfectOf(g) {
			failAll(t, []aCall{alternatingCall(g, a, a)}, "the same matching")
		}
	}
	if mixed < 200 {
		t.Error("too few", mixed)
	}
}

func TestFunctionsOfPolygonsSucceed(t *testing.T) {
	for _, n := range allCorners {
		succeedAll(t, polygonCalls(n))
		all := triangulationsOf(n)
		for _, a := range spread(all, 12) {
			succeedAll(t, append(turnCalls(n, a), isTriangulationCall(n, a), isTriangulationCall(n, append(slices.Clone(a), -1)), earsCall(n, a)))
			for _, b := range spread(all, 12) {
				succeedAll(t, polygonPairCalls(n, a, b))
			}
			for _, diagonal := range a {
				succeedAll(t, []aCall{flipCall(n, a, diagonal)})
			}
		}
		for corner := range n {
			succeedAll(t, []aCall{fanCall(n, corner)})
		}
	}
}

// TestFunctionsOfPolygonsFailForOtherCorners: the lists would do for n of 3 to 8, or for polygons
// that have two or nine corners.
func TestFunctionsOfPolygonsFailForOtherCorners(t *testing.T) {
	lists := [][]int{nil, {}, {2}, {13}, {2, 3}, {2, 3, 4, 5, 6}, {2, 3, 4, 5, 6, 7}, {0}, {1}, {-1}}
	for _, n := range farCorners {
		failAll(t, polygonCalls(n), "corners")
		for _, number := range []int{0, 1, 2, -1, 8, n - 1} {
			failAll(t, []aCall{fanCall(n, number)}, "corners")
		}
		for _, a := range lists {
			failAll(t, append(turnCalls(n, a), isTriangulationCall(n, a), earsCall(n, a), turnCall(n, a, 1, false)), "corners")
			for _, b := range lists {
				failAll(t, polygonPairCalls(n, a, b), "corners")
			}
			for _, diagonal := range append([]int{0, -1}, a...) {
				failAll(t, []aCall{flipCall(n, a, diagonal)}, "corners")
			}
		}
	}
}

func TestFunctionsFailForListsThatAreNoTriangulations(t *testing.T) {
	for _, n := range allCorners {
		all := triangulationsOf(n)
		for _, good := range spread(all, 3) {
			for _, list := range notTriangulations(n, good) {
				calls := append(turnCalls(n, list), earsCall(n, list))
				for _, other := range [][]int{good, all[0], list} {
					calls = append(calls, polygonPairCalls(n, list, other)...)
					calls = append(calls, polygonPairCalls(n, other, list)...)
				}
				for _, diagonal := range append(slices.Clone(good), list[:min(len(list), 6)]...) {
					calls = append(calls, flipCall(n, list, diagonal))
				}
				failAll(t, calls, "no triangulation")
			}
		}
		// A triangulation of more or of fewer corners.
		for _, m := range allCorners {
			for _, list := range spread(triangulationsOf(m), 4) {
				if m != n {
					calls := append(polygonPairCalls(n, list, all[0]), polygonPairCalls(n, all[0], list)...)
					failAll(t, append(append(calls, turnCalls(n, list)...), earsCall(n, list)), "other corners")
				}
			}
		}
	}
}

func TestFlipDiagonalFailsForOtherDiagonals(t *testing.T) {
	for _, n := range allCorners {
		for _, list := range triangulationsOf(n) {
			others := []int{-1, 0, 1, 12, n - 1, 20, 22, 31, 78, 79, 99, 100, math.MinInt, math.MaxInt}
			for _, diagonal := range list {
				others = append(others, -diagonal, diagonal+100, 1<<32+diagonal, diagonal-1<<32, 10*(diagonal%10)+diagonal/10)
			}
			others = append(others, notIn(diagonalsOf(n), list)...)
			for _, other := range others {
				failAll(t, []aCall{flipCall(n, list, other)}, "not there")
			}
		}
	}
}

func TestFunctionsFailForOtherCornersAndTurns(t *testing.T) {
	for _, n := range allCorners {
		for _, far := range []int{-1, -n, n, n + 1, 2 * n, 9, 10, 64, 1 << 32, -1 << 32, 1<<32 + 1, math.MinInt, math.MaxInt} {
			failAll(t, []aCall{fanCall(n, far)}, "no corner")
			for _, list := range spread(triangulationsOf(n), 6) {
				failAll(t, []aCall{turnCall(n, list, far, false), turnCall(n, list, far, true)}, "no turn")
			}
		}
	}
}

func TestFunctionsOfMatchingsKeepMemoryApart(t *testing.T) {
	graphs := slices.Concat(smallGraphs(), badGraphs(), chosenMatchingGraphs())
	for _, g := range graphs {
		calls := matchingCalls(g)
		for _, k := range []int{0, 1, 2, 3, 4, 5, 8, -1, 9} {
			calls = append(calls, matchingSpaceCall(g, k))
		}
		lists := [][]int{{}, {0}, {0, 1}, {1, 0}, {0, 2}}
		if impl.IsGraph(g) {
			lists = append(lists, spread(pairsToCompare(g), 6)...)
		}
		for _, a := range lists {
			calls = append(calls, isMatchingCall(g, a))
			for _, b := range lists {
				calls = append(calls, piecesCall(g, a, b), alternatingCall(g, a, b))
			}
		}
		for _, c := range calls {
			checkMemory(t, c)
		}
	}
}

func TestFunctionsOfPolygonsKeepMemoryApart(t *testing.T) {
	for _, n := range append([]int{2, 9, -1}, allCorners...) {
		calls := polygonCalls(n)
		lists := [][]int{{}, {2}, {3, 2}, {2, 13}, {2, 3}, {14, 24}}
		if slices.Contains(allCorners, n) {
			lists = append(lists, spread(triangulationsOf(n), 8)...)
		}
		for _, a := range lists {
			calls = append(append(calls, turnCalls(n, a)...), isTriangulationCall(n, a), earsCall(n, a))
			for _, b := range lists {
				calls = append(calls, polygonPairCalls(n, a, b)...)
			}
			for _, diagonal := range append([]int{-1, 2}, a...) {
				calls = append(calls, flipCall(n, a, diagonal))
			}
		}
		for corner := -1; corner <= n; corner++ {
			calls = append(calls, fanCall(n, corner))
		}
		for _, c := range calls {
			checkMemory(t, c)
		}
	}
}

// TestNilAndEmptyListsOfMatchingsAreEquivalent, of edges, matchings and triangulations.
func TestNilAndEmptyListsOfMatchingsAreEquivalent(t *testing.T) {
	for _, a := range [][]int{nil, {}} {
		for _, edges := range [][][2]int{nil, {}} {
			for _, size := range []int{0, 1, 2, 8} {
				g := impl.Graph{Size: size, Edges: edges}
				succeedAll(t, append(matchingCalls(g), isMatchingCall(g, a), matchingSpaceCall(g, 0), matchingSpaceCall(g, 8)))
				for _, b := range [][]int{nil, {}} {
					succeedAll(t, []aCall{piecesCall(g, a, b)})
					failAll(t, []aCall{alternatingCall(g, a, b)}, "the same")
				}
			}
		}
		for _, b := range [][]int{nil, {}} {
			succeedAll(t, polygonPairCalls(3, a, b))
			failAll(t, polygonPairCalls(4, a, b), "too short")
		}
		succeedAll(t, append(turnCalls(3, a), earsCall(3, a)))
		failAll(t, append(turnCalls(4, a), earsCall(4, a), flipCall(3, a, 0), flipCall(3, a, 2)), "too short")
	}
}
