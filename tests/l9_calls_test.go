package tests

import (
	"slices"
	"testing"

	"loop.example/g01128/impl"
)

// sortingCalls returns a call of each function with a permutation alone, but for IsPermutation.
func sortingCalls(p []int) []aCall {
	return []aCall{
		{"CyclesOf", impl.CyclesOf, []any{p}},
		{"SwapCount", impl.SwapCount, []any{p}},
		{"SortSwaps", impl.SortSwaps, []any{p}},
		{"InversionCount", impl.InversionCount, []any{p}},
	}
}

func swapPlacesCall(p []int, swaps [][2]int) aCall {
	return aCall{"SwapPlaces", impl.SwapPlaces, []any{p, swaps}}
}

func tokenSpaceCall(g impl.Graph) aCall { return aCall{"TokenSpace", impl.TokenSpace, []any{g}} }

// homeCalls returns calls of the functions that find how tokens come home.
func homeCalls(g impl.Graph, p []int) []aCall {
	return []aCall{{"TokenDistance", impl.TokenDistance, []any{g, p}}, {"TokenSwaps", impl.TokenSwaps, []any{g, p}}}
}

func halfCall(g impl.Graph, p []int) aCall { return aCall{"TokenHalf", impl.TokenHalf, []any{g, p}} }

// shapeCalls returns calls of the functions that tell what a Graph is.
func shapeCalls(g impl.Graph) []aCall {
	return []aCall{{"IsTwofold", impl.IsTwofold, []any{g}}, {"IsEven", impl.IsEven, []any{g}}}
}

func toldCall(g impl.Graph) aCall { return aCall{"BoardsTold", impl.BoardsTold, []any{g}} }

func reachedCall(g impl.Graph, board []int) aCall {
	return aCall{"BoardsReached", impl.BoardsReached, []any{g, board}}
}

func slideTokensCall(g impl.Graph, board []int, list []int) aCall {
	return aCall{"SlideTokens", impl.SlideTokens, []any{g, board, list}}
}

// planCalls returns calls of the functions with two boards.
func planCalls(g impl.Graph, a []int, b []int) []aCall {
	return []aCall{{"SlideDistance", impl.SlideDistance, []any{g, a, b}}, {"SlidePlan", impl.SlidePlan, []any{g, a, b}}}
}

// boardCalls returns all calls with boards that need no slides.
func boardCalls(g impl.Graph, a []int, b []int) []aCall {
	return append(planCalls(g, a, b), reachedCall(g, a), slideTokensCall(g, a, nil))
}

// permutationCalls returns all calls with a Graph and a permutation that may be home.
func permutationCalls(g impl.Graph, p []int) []aCall {
	return slices.Concat(homeCalls(g, p), boardCalls(g, p, p), []aCall{halfCall(g, p)})
}

func TestFunctionsOfPermutationsSucceed(t *testing.T) {
	eachPermutation(func(p []int) {
		succeedAll(t, append(sortingCalls(p), swapPlacesCall(p, nil), swapPlacesCall(p, pairsOf(len(p)))))
	})
}

// TestFunctionsOfTokensAndBoardsSucceed where no token must move, on each number of nodes that
// they allow.
func TestFunctionsOfTokensAndBoardsSucceed(t *testing.T) {
	for _, g := range append(graphsOf(4), chosenMatchingGraphs()...) {
		home := numbersBelow(g.Size)
		succeedAll(t, append(shapeCalls(g), halfCall(g, home)))
		if g.Size <= 5 {
			succeedAll(t, []aCall{tokenSpaceCall(g)})
		} else {
			failAll(t, []aCall{tokenSpaceCall(g)}, "more than 5 nodes")
		}
		if g.Size <= impl.MaxBoard {
			succeedAll(t, homeCalls(g, home))
		} else {
			failAll(t, homeCalls(g, home), "more than MaxBoard nodes")
		}
		if 1 <= g.Size && g.Size <= impl.MaxBoard {
			succeedAll(t, boardCalls(g, home, home))
		} else {
			failAll(t, boardCalls(g, home, home), "no number of nodes of a board")
		}
	}
}

// TestFunctionsOfBoardsFailForOtherSizes where the slides would be possible.
func TestFunctionsOfBoardsFailForOtherSizes(t *testing.T) {
	for _, g := range greaterGraphs() {
		for _, board := range [][]int{numbersBelow(g.Size), reversed(numbersBelow(g.Size)), turnedOnce(g.Size)} {
			calls := boardCalls(g, board, board)
			for _, slide := range slidesNextTo(g)(board) {
				calls = append(calls, slideTokensCall(g, board, []int{slide[0]}))
				calls = append(calls, planCalls(g, board, withSwap(board, slide))...)
			}
			failAll(t, calls, "more than MaxBoard nodes")
		}
	}
	for _, board := range [][]int{nil, {}, {0}} {
		failAll(t, append(boardCalls(impl.Graph{}, board, board), slideTokensCall(impl.Graph{}, board, []int{0})), "no nodes")
	}
}

// TestFunctionsOfTokensAndBoardsFailForOtherGraphs: the permutations would do for Graphs that are
// like these.
func TestFunctionsOfTokensAndBoardsFailForOtherGraphs(t *testing.T) {
	for _, g := range badGraphs() {
		failAll(t, append(shapeCalls(g), toldCall(g), tokenSpaceCall(g)), "no Graph")
		for n := range impl.MaxNodes + 2 {
			for _, p := range [][]int{numbersBelow(n), reversed(numbersBelow(n))} {
				failAll(t, append(permutationCalls(g, p), slideTokensCall(g, p, []int{1})), "no Graph")
			}
		}
	}
}

func TestFunctionsFailForListsThatAreNoPermutations(t *testing.T) {
	for n := range impl.MaxTokens + 1 {
		for _, p := range spread(permutationsOf(n), 6) {
			for _, list := range notPermutations(p) {
				failAll(t, append(sortingCalls(list), swapPlacesCall(list, nil), swapPlacesCall(list, [][2]int{{0, 1}})), "no permutation")
				for _, g := range []impl.Graph{{Size: n}, rowOf(n), complete(n)} {
					calls := append(permutationCalls(g, list), slideTokensCall(g, list, []int{1}))
					failAll(t, append(append(calls, planCalls(g, p, list)...), planCalls(g, list, p)...), "no permutation")
				}
			}
		}
	}
}

// TestFunctionsFailForOtherNumbersOfNodes with permutations that have more numbers or fewer.
func TestFunctionsFailForOtherNumbersOfNodes(t *testing.T) {
	for size := range impl.MaxNodes + 1 {
		for _, g := range []impl.Graph{{Size: size}, rowOf(size), complete(size)} {
			for n := range impl.MaxTokens + 1 {
				if n == size {
					continue
				}
				for _, p := range spread(permutationsOf(n), 4) {
					calls := append(permutationCalls(g, p), slideTokensCall(g, p, []int{1}))
					calls = append(append(calls, planCalls(g, numbersBelow(size), p)...), planCalls(g, p, numbersBelow(size))...)
					failAll(t, calls, "other nodes")
				}
			}
		}
	}
}

func TestSwapPlacesFailsForOtherPairs(t *testing.T) {
	for n := range impl.MaxTokens + 1 {
		others := [][2]int{{-1, 0}, {-2, -1}, {0, n}, {n, n + 1}, {n - 1, n}, {1 << 32, 1<<32 + 1}, {0, 1 << 32}, {-1 << 32, 0}, {-1 << 63, 1<<63 - 1}, {0, 1<<63 - 1}, {-1 << 63, 0}, {0, 8}, {7, 8}}
		for x := range n {
			others = append(others, [2]int{x, x}, [2]int{x, n}, [2]int{-1, x}, [2]int{x, 1<<32 + x})
		}
		for _, pair := range pairsOf(n) {
			others = append(others, [2]int{pair[1], pair[0]}, [2]int{pair[0], pair[1] + 1<<32}, [2]int{pair[0] - 1<<32, pair[1]})
		}
		for _, p := range spread(permutationsOf(n), 6) {
			for _, other := range others {
				failAll(t, []aCall{swapPlacesCall(p, [][2]int{other})}, "no swap")
				for k := range min(3, len(pairsOf(n))) + 1 {
					failAll(t, []aCall{swapPlacesCall(p, slices.Insert(pairsOf(n), k, other))}, "no swap among others")
				}
			}
		}
	}
}

func TestFunctionsOfPermutationsKeepMemoryApart(t *testing.T) {
	for n := range impl.MaxTokens + 1 {
		lists := append(spread(permutationsOf(n), 10), numbersBelow(n+1), append(numbersBelow(n), 0), append([]int{-1}, numbersBelow(n)...))
		for _, p := range lists {
			for _, swaps := range [][][2]int{{}, {{0, 1}}, pairsOf(n), {{1, 0}}, append(pairsOf(n), [2]int{0, n})} {
				checkMemory(t, swapPlacesCall(p, swaps))
			}
			for _, c := range append(sortingCalls(p), aCall{"IsPermutation", impl.IsPermutation, []any{p}}) {
				checkMemory(t, c)
			}
		}
	}
}

func TestFunctionsOfTokensAndBoardsKeepMemoryApart(t *testing.T) {
	for _, g := range slices.Concat(smallGraphs(), badGraphs(), chosenMatchingGraphs(), []impl.Graph{{}, {Size: 1}, cycleOf(3), grid(), cycleOf(6), theta(1, 1, 1)}) {
		calls := append(shapeCalls(g), toldCall(g), tokenSpaceCall(g))
		n := min(max(g.Size, 0), impl.MaxNodes)
		lists := [][]int{numbersBelow(n), reversed(numbersBelow(n)), append(numbersBelow(n), 0)}
		if n > 1 {
			lists = append(lists, turnedOnce(n), withSwap(numbersBelow(n), [2]int{0, 1}))
		}
		for _, a := range lists {
			calls = append(calls, permutationCalls(g, a)...)
			for _, list := range [][]int{{}, {1}, {1, 0, 1}, {1, 2}, {2, 1}, {0, -1}} {
				calls = append(calls, slideTokensCall(g, a, list))
			}
			for _, b := range lists {
				calls = append(calls, planCalls(g, a, b)...)
			}
		}
		for _, c := range calls {
			checkMemory(t, c)
		}
	}
}

// TestNilAndEmptyListsOfPermutationsAreEquivalent, of numbers, swaps, slides and edges.
func TestNilAndEmptyListsOfPermutationsAreEquivalent(t *testing.T) {
	for _, p := range [][]int{nil, {}} {
		checkIsPermutation(t, p, true)
		succeedAll(t, sortingCalls(p))
		for _, swaps := range [][][2]int{nil, {}} {
			succeedAll(t, []aCall{swapPlacesCall(p, swaps), swapPlacesCall([]int{0}, swaps), swapPlacesCall([]int{1, 0}, swaps)})
			none, one := impl.Graph{Edges: swaps}, impl.Graph{Size: 1, Edges: swaps}
			succeedAll(t, append(homeCalls(none, p), halfCall(none, p), tokenSpaceCall(none)))
			succeedAll(t, append(shapeCalls(none), slideTokensCall(one, []int{0}, p)))
			succeedAll(t, append(permutationCalls(one, []int{0}), tokenSpaceCall(one)))
			failAll(t, append(boardCalls(none, p, p), toldCall(none), toldCall(one)), "no board")
			failAll(t, permutationCalls(one, p), "too short")
		}
	}
}
