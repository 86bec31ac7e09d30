package tests

import (
	"fmt"
	"math/rand"
	"slices"
	"testing"

	"loop.example/g01128/impl"
)

// classCycles are the numbers of nodes of cycles that have classes of walks.
var classCycles = []int{3, 5, 6, 7, 8}

// areAlike is the rule of SameClass for closed walks with the same number of nodes.
func areAlike(n int, a []int, b []int) bool {
	if fmt.Sprint(a) == fmt.Sprint(b) {
		return true
	}
	winding := windingAround(n, a)
	if winding != windingAround(n, b) || n*winding == len(a) || n*winding == -len(a) {
		return false
	}
	return n%2 == 1 || (a[0]+b[0])%2 == 0
}

func checkSameClass(t *testing.T, n int, a []int, b []int, want bool) {
	t.Helper()
	if same, ok := impl.SameClass(n, a, b); !ok || same != want {
		t.Error("same class", n, a, b, same, ok)
	}
}

// TestClosedWalksHaveAWayIfTheyAreOfTheSameClass is promise 10: it compares all pairs of closed
// walks with the parts of their map space, and some with MapWay.
func TestClosedWalksHaveAWayIfTheyAreOfTheSameClass(t *testing.T) {
	random := rand.New(rand.NewSource(10))
	counts := map[bool]int{}
	for _, n := range classCycles {
		for m := impl.MinCycle; m <= impl.MaxSource; m++ {
			x := mapSpaceOf(mapsOf(cycleOf(m), cycleOf(n), false))
			least := leastReached(x)
			for i, a := range x.States {
				for j, b := range x.States {
					checkSameClass(t, n, a, b, least[i] == least[j])
					counts[least[i] == least[j]]++
				}
			}
			for range 30 * min(len(x.States), 1) {
				a, b := x.States[random.Intn(len(x.States))], x.States[random.Intn(len(x.States))]
				same, _ := impl.SameClass(n, a, b)
				if way, ok := impl.MapWay(cycleOf(m), cycleOf(n), a, b, false); ok != same || ok != (len(way) > 0) {
					t.Error("way", n, a, b, same, way, ok)
				}
			}
		}
	}
	if counts[true] < 10000 || counts[false] < 10000 {
		t.Error("too few of a sort", counts)
	}
}

// closedWalks returns all closed walks of a length that stay nowhere.
func closedWalks(n int, length int) [][]int {
	walks := [][]int{}
	var extend func(walk []int)
	extend = func(walk []int) {
		if len(walk) == length {
			if isWalkAround(n, walk, false) {
				walks = append(walks, walk)
			}
			return
		}
		last := walk[len(walk)-1]
		for _, next := range []int{(last + 1) % n, (last + n - 1) % n} {
			extend(append(slices.Clone(walk), next))
		}
	}
	for node := range n {
		extend([]int{node})
	}
	return walks
}

// walkParts returns, for each walk, the number of its part, where a step changes one node.
func walkParts(n int, walks [][]int) []int {
	x := impl.Space{States: walks}
	places := map[string]int{}
	for place, walk := range walks {
		places[fmt.Sprint(walk)] = place
	}
	for place, walk := range walks {
		for k := range walk {
			for node := range n {
				if other, found := places[fmt.Sprint(withColour(walk, k, node))]; found && other > place {
					x.Steps = append(x.Steps, [2]int{place, other})
				}
			}
		}
	}
	return leastReached(x)
}

// TestLongerWalksHaveAWayIfTheyAreOfTheSameClass: the rule also tells it for more nodes than maps have.
func TestLongerWalksHaveAWayIfTheyAreOfTheSameClass(t *testing.T) {
	random := rand.New(rand.NewSource(11))
	counts := map[bool]int{}
	for _, n := range classCycles {
		for length := impl.MaxSource + 1; length <= 10; length++ {
			walks := closedWalks(n, length)
			parts := walkParts(n, walks)
			for i, a := range walks {
				// All parts, and some other walks.
				for j := range walks {
					if parts[j] == j || random.Intn(len(walks)) < 10 {
						checkSameClass(t, n, a, walks[j], parts[i] == parts[j])
						counts[parts[i] == parts[j]]++
					}
				}
			}
		}
	}
	if counts[true] < 10000 || counts[false] < 10000 {
		t.Error("too few of a sort", counts)
	}
}

// walksOfLength returns the nodes of walks that stay nowhere.
func walksOfLength(walks []aWalk, length int) [][]int {
	lists := [][]int{}
	for _, walk := range walks {
		if len(walk.nodes) == length && walk.stays == 0 {
			lists = append(lists, walk.nodes)
		}
	}
	return lists
}

func TestSameClassOfLongWalks(t *testing.T) {
	counts := map[bool]int{}
	for _, n := range classCycles {
		walks := walksAround(n)
		for length := 3; length <= impl.MaxWalk; length++ {
			lists := walksOfLength(walks, length)
			for _, a := range lists {
				for _, b := range lists {
					checkSameClass(t, n, a, b, areAlike(n, a, b))
					counts[areAlike(n, a, b)]++
				}
				checkSameClass(t, n, a, a, true)
				for by := range n {
					turned, _ := impl.TurnWalk(n, a, by)
					checkSameClass(t, n, a, turned, areAlike(n, a, turned))
				}
			}
		}
	}
	if counts[true] < 1000 || counts[false] < 1000 {
		t.Error("too few of a sort", counts)
	}
}

func TestKnownClasses(t *testing.T) {
	for _, c := range []struct {
		n    int
		a, b []int
		want bool
	}{
		{3, []int{0, 1, 2}, []int{0, 1, 2}, true}, {3, []int{0, 1, 2}, []int{1, 2, 0}, false}, {3, []int{0, 1, 2}, []int{0, 2, 1}, false}, {3, []int{0, 1, 0, 1}, []int{1, 2, 1, 0}, true}, {3, []int{0, 1, 2, 0, 1}, []int{2, 0, 2, 0, 1}, true},
		{3, []int{0, 1, 2, 0, 1}, []int{0, 2, 1, 0, 2}, false}, {3, []int{0, 1, 2, 0, 1, 2}, []int{0, 1, 2, 0, 1, 2}, true}, {3, []int{0, 1, 2, 0, 1, 2}, []int{1, 2, 0, 1, 2, 0}, false}, {3, []int{0, 1, 2, 0, 1, 2}, []int{0, 1, 0, 1, 0, 1}, false},
		{5, []int{0, 1, 0, 4}, []int{1, 2, 1, 0}, true}, {5, []int{0, 1, 2, 3, 4}, []int{1, 2, 3, 4, 0}, false}, {5, []int{0, 1, 2, 3, 4, 0, 1}, []int{1, 2, 3, 4, 0, 1, 0}, true}, {6, []int{0, 1, 0, 5}, []int{2, 1, 2, 1}, true}, {6, []int{0, 1, 0, 5}, []int{1, 2, 1, 0}, false},
		{6, []int{0, 1, 2, 3, 4, 5}, []int{0, 1, 2, 3, 4, 5}, true}, {6, []int{0, 1, 2, 3, 4, 5}, []int{2, 3, 4, 5, 0, 1}, false}, {6, []int{0, 1, 2, 3, 4, 5, 0, 1}, []int{2, 3, 4, 5, 0, 1, 0, 1}, true}, {6, []int{0, 1, 2, 3, 4, 5, 0, 1}, []int{1, 2, 3, 4, 5, 0, 1, 0}, false},
		{8, []int{0, 1, 0, 7}, []int{4, 3, 4, 5}, true}, {8, []int{7, 0, 7, 6}, []int{0, 1, 0, 7}, false}, {8, numbersBelow(8), reversed(numbersBelow(8)), false}, {7, append(numbersBelow(7), 0, 6), append(numbersBelow(7), 0, 1, 2), false},
	} {
		if len(c.a) != len(c.b) {
			failAll(t, []aCall{sameClassCall(c.n, c.a, c.b)}, "different numbers of nodes")
			continue
		}
		checkSameClass(t, c.n, c.a, c.b, c.want)
		checkSameClass(t, c.n, c.b, c.a, c.want)
	}
}

// TestSameClassFails for lazy walks, for walks with different numbers of nodes, and around 4 nodes.
func TestSameClassFails(t *testing.T) {
	for _, n := range allCycles {
		walks := walksAround(n)
		for k, walk := range walks {
			for _, other := range []aWalk{walk, walks[k/2], walks[(k*7+1)%len(walks)]} {
				if n == 4 || walk.stays > 0 || other.stays > 0 || len(walk.nodes) != len(other.nodes) {
					failAll(t, []aCall{sameClassCall(n, walk.nodes, other.nodes), sameClassCall(n, other.nodes, walk.nodes)}, "no class")
				}
			}
		}
	}
	for _, walk := range [][]int{{0, 1, 0, 1}, {0, 1, 2, 3}, {2, 1, 0, 3}, {3, 0, 3, 0, 1, 0}} {
		failAll(t, []aCall{sameClassCall(4, walk, walk)}, "4 nodes")
		for _, n := range farCycles {
			failAll(t, []aCall{sameClassCall(n, walk, walk)}, "no cycle")
		}
	}
}

// TestStepsKeepTheWinding is the guarantee on steps of a map space: for each closed walk of few
// nodes, and for each node that can change alone.
func TestStepsKeepTheWinding(t *testing.T) {
	kept, wound, changed := 0, 0, 0
	for _, n := range allCycles {
		for length := 3; length <= 9; length++ {
			for _, walk := range closedWalks(n, length) {
				before, one := impl.WalkWinding(n, walk)
				for k := range walk {
					// Only where both neighbors of a node are the same, or around 4 nodes, can it change.
					for node := range n {
						other := withColour(walk, k, node)
						if node == walk[k] || !isWalkAround(n, other, false) {
							continue
						}
						after, two := impl.WalkWinding(n, other)
						if !one || !two || n != 4 && before != after {
							t.Error("winding", n, walk, other, before, after)
						}
						if before != after {
							changed++
						} else if kept++; before != 0 {
							wound++
						}
					}
				}
			}
		}
	}
	if kept < 10000 || wound < 1000 || changed < 1000 {
		t.Error("too few of a sort", kept, wound, changed)
	}
}
