package tests

import (
	"math"
	"math/rand"
	"slices"
	"testing"

	"loop.example/g01128/impl"
)

// allCycles are all numbers of nodes of a cycle.
var allCycles = []int{3, 4, 5, 6, 7, 8}

// farCycles are no numbers of nodes of a cycle.
var farCycles = []int{2, 9, 1, 0, -1, 10, -3, -5, -8, 1 << 32, 1<<32 + 5, 5 - 1<<32, math.MinInt, math.MinInt + 5, math.MaxInt, math.MaxInt - 2}

func TestCycleOf(t *testing.T) {
	for _, n := range allCycles {
		if g, ok := impl.CycleOf(n); !ok || !impl.IsGraph(g) || !sameGraph(g, cycleOf(n)) {
			t.Error("cycle", n, g, ok)
		}
	}
	for n, text := range map[int]string{3: "3 0-1 0-2 1-2", 4: "4 0-1 0-3 1-2 2-3", 8: "8 0-1 0-7 1-2 2-3 3-4 4-5 5-6 6-7"} {
		g, _ := impl.CycleOf(n)
		if s, ok := impl.GraphText(g); !ok || s != text {
			t.Error("text", n, s, ok)
		}
	}
	for _, n := range farCycles {
		failAll(t, []aCall{cycleCall(n)}, "no cycle")
	}
}

func isWalkAround(n int, walk []int, lazy bool) bool {
	if len(walk) < 3 || len(walk) > 24 {
		return false
	}
	for k, node := range walk {
		next := walk[(k+1)%len(walk)]
		if node < 0 || node >= n || !hasEdge(cycleOf(n), node, next) && (node != next || !lazy) {
			return false
		}
	}
	return true
}

func checkIsClosedWalk(t *testing.T, n int, walk []int, lazy bool, want bool) {
	t.Helper()
	if is, ok := impl.IsClosedWalk(n, walk, lazy); is != want || !ok {
		t.Error("closed walk", n, walk, lazy, is, ok)
	}
}

// TestIsClosedWalk looks at all short lists of numbers in -1..n.
func TestIsClosedWalk(t *testing.T) {
	counts := map[[2]bool]int{}
	for _, n := range allCycles {
		most := 4
		if n <= 4 {
			most = 6
		}
		everyList(most, -1, n, func(list []int) {
			want := isWalkAround(n, list, true)
			checkIsClosedWalk(t, n, list, true, want)
			moves := isWalkAround(n, list, false)
			checkIsClosedWalk(t, n, list, false, moves)
			counts[[2]bool{want, moves}]++
			if !want {
				failAll(t, walkCallsAround(n, list), "no closed walk")
			}
		})
	}
	if counts[[2]bool{true, true}] < 300 || counts[[2]bool{true, false}] < 1000 || counts[[2]bool{false, true}] > 0 {
		t.Error("too few of a sort", counts)
	}
}

// aWalk is a closed walk, and what is known of it.
type aWalk struct {
	nodes          []int
	winding, stays int
}

// mixedWalk returns a walk from a node that goes on and back, and stays, in an order from a fixed seed.
func mixedWalk(n int, from int, on int, back int, stays int, random *rand.Rand) aWalk {
	rises := slices.Concat(slices.Repeat([]int{1}, on), slices.Repeat([]int{n - 1}, back), slices.Repeat([]int{0}, stays))
	random.Shuffle(len(rises), func(i int, j int) { rises[i], rises[j] = rises[j], rises[i] })
	nodes := []int{from}
	for _, rise := range rises[1:] {
		nodes = append(nodes, (nodes[len(nodes)-1]+rise)%n)
	}
	return aWalk{nodes: nodes, winding: (on - back) / n, stays: stays}
}

// walksAround returns walks of all numbers of nodes, all windings, and all numbers of stays.
func walksAround(n int) []aWalk {
	random := rand.New(rand.NewSource(int64(n)))
	walks := []aWalk{}
	for length := 3; length <= impl.MaxWalk; length++ {
		for on := range length + 1 {
			for back := on % n; back <= length-on; back += n {
				for range 3 {
					walks = append(walks, mixedWalk(n, random.Intn(n), on, back, length-on-back, random))
				}
			}
		}
	}
	return walks
}

// heightsAround counts how often the walk has gone on from the last node to the first one.
func heightsAround(n int, walk []int) []int {
	heights, turns := []int{walk[0]}, 0
	for k, node := range walk {
		next := walk[(k+1)%len(walk)]
		switch [2]int{node, next} {
		case [2]int{n - 1, 0}:
			turns++
		case [2]int{0, n - 1}:
			turns--
		}
		heights = append(heights, next+n*turns)
	}
	return heights
}

func windingAround(n int, walk []int) int {
	heights := heightsAround(n, walk)
	return (heights[len(walk)] - heights[0]) / n
}

func TestClosedWalks(t *testing.T) {
	for _, n := range allCycles {
		windings, lengths, stays, tight := map[int]int{}, map[int]int{}, map[bool]int{}, 0
		for _, walk := range walksAround(n) {
			checkIsClosedWalk(t, n, walk.nodes, true, true)
			checkIsClosedWalk(t, n, walk.nodes, false, walk.stays == 0)
			want := heightsAround(n, walk.nodes)
			heights, one := impl.HeightsOf(n, walk.nodes)
			winding, two := impl.WalkWinding(n, walk.nodes)
			slack, three := impl.SlackOf(n, walk.nodes)
			if !one || !slices.Equal(heights, want) {
				t.Error("heights", n, walk, heights, one, want)
			}
			if !two || winding != walk.winding {
				t.Error("winding", n, walk, winding, two)
			}
			if !three || slack < 0 || slack != len(walk.nodes)-n*max(walk.winding, -walk.winding) {
				t.Error("slack", n, walk, slack, three)
			}
			windings[winding]++
			lengths[len(walk.nodes)]++
			stays[walk.stays == len(walk.nodes)]++
			if slack == 0 {
				tight++
			}
		}
		for winding := -impl.MaxWalk / n; winding <= impl.MaxWalk/n; winding++ {
			if windings[winding] == 0 {
				t.Error("none of a winding", n, winding)
			}
		}
		for length := 3; length <= impl.MaxWalk; length++ {
			if lengths[length] < 3 {
				t.Error("too few of a length", n, length, lengths[length])
			}
		}
		if stays[true] < impl.MaxWalk-2 || stays[false] < 100 || tight < 2 {
			t.Error("too few of a sort", n, stays, tight)
		}
	}
}

func TestKnownClosedWalks(t *testing.T) {
	for _, c := range []struct {
		n              int
		walk, heights  []int
		winding, slack int
	}{
		{3, []int{0, 1, 2}, []int{0, 1, 2, 3}, 1, 0}, {3, []int{0, 2, 1}, []int{0, -1, -2, -3}, -1, 0}, {3, []int{2, 0, 1}, []int{2, 3, 4, 5}, 1, 0}, {3, []int{0, 0, 0}, []int{0, 0, 0, 0}, 0, 3}, {3, []int{2, 2, 0}, []int{2, 2, 3, 2}, 0, 3},
		{3, []int{0, 1, 2, 1}, []int{0, 1, 2, 1, 0}, 0, 4}, {3, []int{0, 1, 2, 2}, []int{0, 1, 2, 2, 3}, 1, 1}, {3, []int{1, 2, 0, 1, 2, 0}, []int{1, 2, 3, 4, 5, 6, 7}, 2, 0}, {4, []int{0, 1, 2, 3}, []int{0, 1, 2, 3, 4}, 1, 0}, {4, []int{3, 0, 3, 2}, []int{3, 4, 3, 2, 3}, 0, 4},
		{4, []int{3, 2, 1, 0}, []int{3, 2, 1, 0, -1}, -1, 0}, {4, []int{1, 1, 2}, []int{1, 1, 2, 1}, 0, 3}, {5, []int{0, 1, 2, 3, 4}, []int{0, 1, 2, 3, 4, 5}, 1, 0}, {5, []int{0, 1, 0, 4}, []int{0, 1, 0, -1, 0}, 0, 4}, {5, []int{0, 1, 2, 3, 4, 0, 4}, []int{0, 1, 2, 3, 4, 5, 4, 5}, 1, 2},
		{8, []int{7, 0, 0, 7, 6, 7}, []int{7, 8, 8, 7, 6, 7, 7}, 0, 6}, {8, []int{0, 7, 6, 5, 4, 3, 2, 1}, []int{0, -1, -2, -3, -4, -5, -6, -7, -8}, -1, 0}, {8, []int{7, 7, 7}, []int{7, 7, 7, 7}, 0, 3},
	} {
		heights, one := impl.HeightsOf(c.n, c.walk)
		winding, two := impl.WalkWinding(c.n, c.walk)
		slack, three := impl.SlackOf(c.n, c.walk)
		if !one || !two || !three || !slices.Equal(heights, c.heights) || winding != c.winding || slack != c.slack {
			t.Error("closed walk", c, heights, winding, slack)
		}
	}
	for _, n := range allCycles {
		// As often around as MaxWalk nodes allow, and MaxWalk nodes that stay or go on and back.
		once := numbersBelow(n)
		turns := impl.MaxWalk / n
		if winding, ok := impl.WalkWinding(n, slices.Repeat(once, turns)); !ok || winding != turns {
			t.Error("around", n, winding, ok)
		}
		if winding, ok := impl.WalkWinding(n, reversed(slices.Repeat(once, turns))); !ok || winding != -turns {
			t.Error("around in the other direction", n, winding, ok)
		}
		for _, walk := range [][]int{make([]int, impl.MaxWalk), slices.Repeat([]int{n - 1, 0}, impl.MaxWalk/2)} {
			if slack, ok := impl.SlackOf(n, walk); !ok || slack != impl.MaxWalk {
				t.Error("not around", n, walk, slack, ok)
			}
		}
	}
}

func TestTurnWalkAndBackWalk(t *testing.T) {
	for _, n := range allCycles {
		for _, walk := range walksAround(n) {
			back, ok := impl.BackWalk(n, walk.nodes)
			if !ok || !slices.Equal(back, reversed(walk.nodes)) || !isWalkAround(n, back, true) || windingAround(n, back) != -walk.winding {
				t.Error("back", n, walk, back, ok)
			}
			for by := range n {
				want := []int{}
				for _, node := range walk.nodes {
					if node+by < n {
						want = append(want, node+by)
					} else {
						want = append(want, node+by-n)
					}
				}
				turned, ok := impl.TurnWalk(n, walk.nodes, by)
				winding, _ := impl.WalkWinding(n, turned)
				if !ok || !slices.Equal(turned, want) || winding != walk.winding {
					t.Error("turn", n, walk, by, turned, ok)
				}
			}
		}
	}
}

func TestKnownTurnedWalks(t *testing.T) {
	for _, c := range []struct {
		n          int
		walk       []int
		by         int
		turn, back []int
	}{
		{3, []int{0, 1, 2}, 0, []int{0, 1, 2}, []int{2, 1, 0}}, {3, []int{0, 1, 2}, 2, []int{2, 0, 1}, []int{2, 1, 0}}, {3, []int{2, 2, 2}, 1, []int{0, 0, 0}, []int{2, 2, 2}}, {4, []int{0, 1, 2, 3}, 3, []int{3, 0, 1, 2}, []int{3, 2, 1, 0}},
		{5, []int{0, 1, 0, 4}, 2, []int{2, 3, 2, 1}, []int{4, 0, 1, 0}}, {5, []int{0, 4, 4, 3, 4}, 1, []int{1, 0, 0, 4, 0}, []int{4, 3, 4, 4, 0}}, {8, []int{7, 0, 7, 6}, 7, []int{6, 7, 6, 5}, []int{6, 7, 0, 7}},
	} {
		turn, one := impl.TurnWalk(c.n, c.walk, c.by)
		back, two := impl.BackWalk(c.n, c.walk)
		if !one || !two || !slices.Equal(turn, c.turn) || !slices.Equal(back, c.back) {
			t.Error("turn and back", c, turn, back)
		}
	}
}

func TestTurnWalkFailsForOtherNumbers(t *testing.T) {
	for _, n := range allCycles {
		for _, walk := range [][]int{numbersBelow(n), make([]int, 3), {0, 1, 0, n - 1}, {1, 2, 2}, make([]int, impl.MaxWalk)} {
			for _, by := range []int{-1, n, n + 1, -n, 2 * n, 1 - n, 100, 1 << 32, 1<<32 + 1, 1 - 1<<32, math.MinInt, math.MinInt + 1, math.MaxInt, math.MaxInt - n} {
				failAll(t, []aCall{turnWalkCall(n, walk, by)}, "not in 0..n-1")
			}
		}
	}
}

func TestWindingLabels(t *testing.T) {
	for m := impl.MinCycle; m <= impl.MaxSource; m++ {
		for _, n := range allCycles {
			maps := mapsOf(cycleOf(m), cycleOf(n), false)
			want := []int{}
			for _, walk := range maps {
				want = append(want, windingAround(n, walk))
			}
			labels, ok := impl.WindingLabels(m, n)
			if !ok || !slices.Equal(labels, want) {
				t.Error("labels", m, n, labels, ok, want)
			}
			// With 4 nodes, a step can lead from one side of the cycle to the other one.
			kept, ok := impl.AreKept(mapSpaceOf(maps), labels)
			if !ok || kept != (n != 4 || m%2 == 1) {
				t.Error("kept labels", m, n, kept, ok)
			}
		}
	}
}

func TestKnownWindingLabels(t *testing.T) {
	for _, c := range []struct {
		m, n int
		want []int
	}{
		{3, 3, []int{1, -1, -1, 1, 1, -1}}, {4, 3, make([]int, 18)}, {3, 4, nil}, {5, 4, nil}, {3, 8, nil}, {5, 5, []int{1, -1, -1, 1, -1, 1, -1, 1, 1, -1}}, {4, 8, make([]int, 48)}, {6, 8, make([]int, 160)},
	} {
		if labels, ok := impl.WindingLabels(c.m, c.n); !ok || !slices.Equal(labels, c.want) {
			t.Error("labels", c, labels, ok)
		}
	}
	for _, c := range []struct{ m, n, around, back int }{{4, 4, 4, 4}, {5, 3, 15, 15}, {6, 3, 3, 3}, {6, 4, 24, 24}, {6, 6, 6, 6}, {6, 5, 0, 0}} {
		labels, _ := impl.WindingLabels(c.m, c.n)
		around := slices.DeleteFunc(slices.Clone(labels), func(winding int) bool { return winding <= 0 })
		back := slices.DeleteFunc(slices.Clone(labels), func(winding int) bool { return winding >= 0 })
		if len(around) != c.around || len(back) != c.back {
			t.Error("windings", c, len(around), len(back))
		}
	}
}

func TestWindingLabelsFailForOtherNumbers(t *testing.T) {
	for _, other := range append(slices.Clone(farCycles), 7, 8) {
		for _, n := range append(slices.Clone(farCycles), allCycles...) {
			failAll(t, []aCall{labelsCall(other, n)}, "no such first cycle")
		}
	}
	for _, other := range farCycles {
		for _, m := range append(slices.Clone(farCycles), allCycles...) {
			failAll(t, []aCall{labelsCall(m, other)}, "no such second cycle")
		}
	}
}
