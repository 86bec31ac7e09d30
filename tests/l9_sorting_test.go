package tests

import (
	"math"
	"math/rand"
	"slices"
	"testing"

	"loop.example/g01128/impl"
)

// permutationsOf returns all permutations of n numbers, in order.
func permutationsOf(n int) [][]int {
	orders := ordersOf(n)
	slices.SortFunc(orders, slices.Compare[[]int])
	return orders
}

// eachPermutation visits all permutations.
func eachPermutation(visit func(p []int)) {
	for n := range impl.MaxTokens + 1 {
		for _, p := range ordersOf(n) {
			visit(p)
		}
	}
}

func isSorted(p []int) bool { return slices.Equal(p, numbersBelow(len(p))) }

func reversed(p []int) []int {
	other := slices.Clone(p)
	slices.Reverse(other)
	return other
}

// turnedOnce returns the permutation of n numbers with a single cycle that has x + 1 at each place
// x but the last one.
func turnedOnce(n int) []int { return append(numbersBelow(n)[1:], 0) }

func withSwap(p []int, swap [2]int) []int {
	behind := slices.Clone(p)
	behind[swap[0]], behind[swap[1]] = p[swap[1]], p[swap[0]]
	return behind
}

func isPermutationOf(list []int) bool { return isSorted(slices.Sorted(slices.Values(list))) }

func checkIsPermutation(t *testing.T, list []int, want bool) {
	t.Helper()
	if impl.IsPermutation(list) != want {
		t.Error("permutation", list, want)
	}
}

func TestIsPermutation(t *testing.T) {
	everyList(5, -1, 5, func(list []int) { checkIsPermutation(t, list, isPermutationOf(list)) })
	checkIsPermutation(t, nil, true)
	eachPermutation(func(p []int) { checkIsPermutation(t, p, true) })
	for n := range impl.MaxTokens + 1 {
		for _, p := range spread(permutationsOf(n), 30) {
			for _, list := range notPermutations(p) {
				checkIsPermutation(t, list, false)
			}
		}
	}
}

// notPermutations returns lists that are near to a permutation, but none.
func notPermutations(p []int) [][]int {
	n := len(p)
	more := numbersBelow(impl.MaxTokens + 1)
	lists := [][]int{make([]int, 1000), make([]int, 100000), more, reversed(more), numbersBelow(64), append(slices.Clone(p), more[n:]...)}
	for _, far := range []int{-1, -2, n + 1, impl.MaxTokens, 64, 1 << 32, 1<<32 + n, n - 1<<32, math.MinInt, math.MaxInt} {
		if far != n {
			lists = append(lists, append(slices.Clone(p), far))
		}
	}
	for place, number := range p {
		for _, far := range []int{-1, -1 - number, n, n + 1, 64, 1<<32 + number, number - 1<<32, math.MinInt, math.MaxInt} {
			lists = append(lists, withColour(p, place, far))
		}
		lists = append(lists, append(slices.Clone(p), number)) // a number twice in addition to all
		if number < n-1 {
			lists = append(lists, slices.Delete(slices.Clone(p), place, place+1))
		}
		for _, other := range p {
			if other != number {
				lists = append(lists, withColour(p, place, other))
			}
		}
	}
	return lists
}

// cyclesOf goes along from each number, and takes the cycles whose least number was the first.
func cyclesOf(p []int) [][]int {
	cycles := [][]int{}
	for first := range p {
		cycle := []int{first}
		for x := p[first]; x != first; x = p[x] {
			cycle = append(cycle, x)
		}
		if slices.Min(cycle) == first {
			cycles = append(cycles, cycle)
		}
	}
	return cycles
}

func TestCyclesOf(t *testing.T) {
	eachPermutation(func(p []int) {
		if cycles, ok := impl.CyclesOf(p); !ok || !sameLists(cycles, cyclesOf(p)) {
			t.Error("cycles", p, cycles, ok)
		}
	})
}

func TestKnownCycles(t *testing.T) {
	for _, c := range []struct {
		p    []int
		want [][]int
	}{
		{nil, nil}, {[]int{}, nil}, {[]int{0}, [][]int{{0}}}, {[]int{0, 1}, [][]int{{0}, {1}}}, {[]int{1, 0}, [][]int{{0, 1}}},
		{[]int{1, 2, 0}, [][]int{{0, 1, 2}}}, {[]int{2, 0, 1}, [][]int{{0, 2, 1}}}, {[]int{3, 4, 0, 2, 1}, [][]int{{0, 3, 2}, {1, 4}}},
		{reversed(numbersBelow(7)), [][]int{{0, 6}, {1, 5}, {2, 4}, {3}}}, {turnedOnce(8), [][]int{{0, 1, 2, 3, 4, 5, 6, 7}}},
		{[]int{7, 0, 1, 2, 3, 4, 5, 6}, [][]int{{0, 7, 6, 5, 4, 3, 2, 1}}}, {numbersBelow(8), [][]int{{0}, {1}, {2}, {3}, {4}, {5}, {6}, {7}}},
	} {
		if cycles, ok := impl.CyclesOf(c.p); !ok || !sameLists(cycles, c.want) {
			t.Error("cycles", c.p, cycles, ok)
		}
	}
}

func swapCountOf(t *testing.T, p []int) int {
	t.Helper()
	count, ok := impl.SwapCount(p)
	if !ok {
		t.Error("swap count", p)
	}
	return count
}

// TestSwapCount: no list of swaps is shorter than a count that each swap changes by 1 and that is 0
// for the sorted permutation; and if, for each other one, a swap makes it less, there is a list
// that is as short.
func TestSwapCount(t *testing.T) {
	eachPermutation(func(p []int) {
		count, falls := swapCountOf(t, p), isSorted(p)
		for _, swap := range pairsOf(len(p)) {
			switch swapCountOf(t, withSwap(p, swap)) {
			case count - 1:
				falls = true
			case count + 1:
			default:
				t.Error("more than one", p, swap)
			}
		}
		if !falls || (count == 0) != isSorted(p) || count != len(p)-len(cyclesOf(p)) {
			t.Error("swap count", p, count)
		}
	})
}

// TestSortSwaps: the swaps put one number after the other to its own place.
func TestSortSwaps(t *testing.T) {
	eachPermutation(func(p []int) {
		swaps, ok := impl.SortSwaps(p)
		behind := p
		for k, swap := range swaps {
			x, y := swap[0], swap[1]
			if x >= y || k > 0 && swaps[k-1][0] >= x || !isSorted(behind[:x]) || behind[y] != x {
				t.Fatal("swap", p, swaps, k)
			}
			behind = withSwap(behind, swap)
		}
		if !ok || !isSorted(behind) || len(swaps) != swapCountOf(t, p) {
			t.Error("sorting", p, swaps, ok)
		}
		if sorted, ok := impl.SwapPlaces(p, swaps); !ok || !isSorted(sorted) {
			t.Error("sorted", p, swaps, sorted, ok)
		}
	})
}

func TestKnownSortings(t *testing.T) {
	for _, c := range []struct {
		p    []int
		want [][2]int
	}{
		{nil, nil}, {[]int{0}, nil}, {[]int{0, 1}, nil}, {[]int{1, 0}, [][2]int{{0, 1}}}, {numbersBelow(8), nil},
		{[]int{1, 2, 0}, [][2]int{{0, 2}, {1, 2}}}, {[]int{2, 0, 1}, [][2]int{{0, 1}, {1, 2}}}, {[]int{3, 4, 0, 2, 1}, [][2]int{{0, 2}, {1, 4}, {2, 3}}},
		{reversed(numbersBelow(8)), [][2]int{{0, 7}, {1, 6}, {2, 5}, {3, 4}}}, {reversed(numbersBelow(5)), [][2]int{{0, 4}, {1, 3}}},
		{turnedOnce(8), [][2]int{{0, 7}, {1, 7}, {2, 7}, {3, 7}, {4, 7}, {5, 7}, {6, 7}}},
		{[]int{7, 0, 1, 2, 3, 4, 5, 6}, [][2]int{{0, 1}, {1, 2}, {2, 3}, {3, 4}, {4, 5}, {5, 6}, {6, 7}}},
	} {
		swaps, ok := impl.SortSwaps(c.p)
		if !ok || !slices.Equal(swaps, c.want) || swapCountOf(t, c.p) != len(c.want) {
			t.Error("sorting", c.p, swaps, ok)
		}
	}
}

// exchangesNextTo counts the swaps of numbers next to each other, the greater one first, until
// there are none.
func exchangesNextTo(p []int) int {
	behind, count := p, 0
	for place := 1; place < len(behind); {
		if behind[place-1] < behind[place] {
			place++
			continue
		}
		behind = withSwap(behind, [2]int{place - 1, place})
		count++
		place = max(1, place-1)
	}
	return count
}

func TestInversionCount(t *testing.T) {
	eachPermutation(func(p []int) {
		if count, ok := impl.InversionCount(p); !ok || count != exchangesNextTo(p) {
			t.Error("inversions", p, count, ok)
		}
	})
}

func TestKnownInversions(t *testing.T) {
	for _, c := range []struct {
		p    []int
		want int
	}{
		{nil, 0}, {[]int{0}, 0}, {[]int{0, 1}, 0}, {[]int{1, 0}, 1}, {[]int{2, 1, 0}, 3}, {[]int{1, 2, 0}, 2}, {[]int{2, 0, 1}, 2}, {[]int{0, 2, 1}, 1},
		{numbersBelow(8), 0}, {reversed(numbersBelow(8)), 28}, {turnedOnce(8), 7}, {[]int{3, 4, 0, 2, 1}, 7},
	} {
		if count, ok := impl.InversionCount(c.p); !ok || count != c.want {
			t.Error("inversions", c.p, count, ok)
		}
	}
}

// isSwap reports whether a pair is a swap of two of n places.
func isSwap(pair [2]int, n int) bool { return slices.Contains(pairsOf(n), pair) }

func checkSwapPlaces(t *testing.T, p []int, swaps [][2]int) {
	t.Helper()
	want, isValid := p, true
	for _, swap := range swaps {
		if isValid = isValid && isSwap(swap, len(p)); isValid {
			want = withSwap(want, swap)
		}
	}
	behind, ok := impl.SwapPlaces(p, swaps)
	if ok != isValid || ok && !slices.Equal(behind, want) || !ok && len(behind) > 0 {
		t.Error("swaps", p, swaps, behind, ok)
	}
}

// TestSwapPlaces tries all lists of two pairs near the places, and long ones from a fixed seed.
func TestSwapPlaces(t *testing.T) {
	random := rand.New(rand.NewSource(9))
	for n := range impl.MaxTokens + 1 {
		some := spread(permutationsOf(n), 12)
		for _, p := range some {
			checkSwapPlaces(t, p, nil)
			checkSwapPlaces(t, p, [][2]int{})
			everyList(4, -1, min(n, 4), func(list []int) {
				if len(list)%2 == 0 {
					checkSwapPlaces(t, p, inPairs(list))
				}
			})
		}
		pairs := pairsOf(n)
		for range 200 {
			swaps := [][2]int{}
			for range random.Intn(2 + 20*len(pairs)) {
				if len(pairs) > 0 {
					swaps = append(swaps, pairs[random.Intn(len(pairs))])
				}
			}
			checkSwapPlaces(t, some[random.Intn(len(some))], swaps)
		}
	}
}

// inPairs takes the numbers of a list two by two.
func inPairs(list []int) [][2]int {
	pairs := [][2]int{}
	for k := 0; k < len(list); k += 2 {
		pairs = append(pairs, [2]int{list[k], list[k+1]})
	}
	return pairs
}

func TestKnownSwaps(t *testing.T) {
	long := slices.Repeat([][2]int{{0, 1}, {1, 2}}, 3*10000+1)
	for _, c := range []struct {
		p     []int
		swaps [][2]int
		want  []int
	}{
		{nil, nil, nil}, {[]int{0}, nil, []int{0}}, {[]int{1, 0}, nil, []int{1, 0}}, {[]int{1, 0}, [][2]int{{0, 1}}, []int{0, 1}},
		// The places are told, not the numbers.
		{[]int{2, 1, 0, 3}, [][2]int{{0, 3}}, []int{3, 1, 0, 2}}, {[]int{1, 2, 0}, [][2]int{{0, 1}, {1, 2}}, []int{2, 0, 1}}, {[]int{1, 2, 0}, [][2]int{{1, 2}, {0, 1}}, []int{0, 1, 2}},
		{numbersBelow(8), [][2]int{{0, 7}, {0, 7}}, numbersBelow(8)}, {numbersBelow(8), [][2]int{{0, 7}, {1, 6}, {2, 5}, {3, 4}}, reversed(numbersBelow(8))},
		// Three times both swaps lead back.
		{[]int{0, 1, 2}, long, []int{1, 2, 0}},
	} {
		if behind, ok := impl.SwapPlaces(c.p, c.swaps); !ok || !slices.Equal(behind, c.want) {
			t.Error("swaps", c.p, len(c.swaps), behind, ok)
		}
	}
}
