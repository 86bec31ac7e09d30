package tests

import (
	"maps"
	"math"
	"math/bits"
	"slices"
	"testing"

	"loop.example/g01128/impl"
)

// aroundEach returns, for each node, the set of it and its neighbors, as digits.
func aroundEach(h impl.Graph) []int {
	around := []int{}
	for node := range h.Size {
		around = append(around, 1<<node)
	}
	for _, edge := range h.Edges {
		around[edge[0]] |= 1 << edge[1]
		around[edge[1]] |= 1 << edge[0]
	}
	return around
}

// foldsOf returns all pairs of a node of a set that can be taken away and one for which it can:
// what is around the first one is also around the other one.
func foldsOf(around []int, set int) [][2]int {
	folds := [][2]int{}
	for _, x := range setOf(set) {
		for _, y := range setOf(set & around[x] &^ (1 << x)) {
			if around[x]&set&^around[y] == 0 {
				folds = append(folds, [2]int{x, y})
			}
		}
	}
	return folds
}

// numbersLeft adds all numbers of nodes that are left of a set when no more can be taken away, in
// whatever order.
func numbersLeft(around []int, set int, seen map[int]bool, numbers map[int]bool) {
	if seen[set] {
		return
	}
	seen[set] = true
	folds := foldsOf(around, set)
	for _, fold := range folds {
		numbersLeft(around, set&^(1<<fold[0]), seen, numbers)
	}
	if len(folds) == 0 {
		numbers[bits.OnesCount(uint(set))] = true
	}
}

func foldOrderOf(h impl.Graph) [][2]int {
	order, around, set := [][2]int{}, aroundEach(h), 1<<h.Size-1
	for folds := foldsOf(around, set); len(folds) > 0; folds = foldsOf(around, set) {
		order = append(order, folds[0])
		set &^= 1 << folds[0][0]
	}
	return order
}

// foldGraphs have nodes.
func foldGraphs() []impl.Graph {
	graphs := slices.Concat(graphsOf(5), shapesOf(6), chosenMatchingGraphs(), []impl.Graph{spokes(), grid(), theta(1, 1, 1), theta(2, 2, 0)})
	return slices.DeleteFunc(graphs, func(g impl.Graph) bool { return g.Size == 0 })
}

func checkFolds(t *testing.T, h impl.Graph, want [][2]int, can bool) {
	t.Helper()
	order, ok := impl.FoldOrder(h)
	if !ok || !slices.Equal(order, want) {
		t.Error("order", h, order, ok, want)
	}
	if is, ok := impl.CanFold(h); !ok || is != can {
		t.Error("can be folded", h, is, ok)
	}
}

// TestFolds also looks at all orders: each of them leaves the same number of nodes.
func TestFolds(t *testing.T) {
	can, not, left := 0, 0, map[int]int{}
	for _, h := range foldGraphs() {
		numbers := map[int]bool{}
		numbersLeft(aroundEach(h), 1<<h.Size-1, map[int]bool{}, numbers)
		want := foldOrderOf(h)
		if len(numbers) != 1 || !numbers[h.Size-len(want)] {
			t.Error("another order leaves another number", h, numbers, want)
		}
		checkFolds(t, h, want, numbers[1])
		for number := range maps.Keys(numbers) {
			left[number]++
		}
		if numbers[1] {
			can++
		} else {
			not++
		}
	}
	if can < 400 || not < 400 || len(left) < impl.MaxNodes {
		t.Error("too few of a sort", can, not, left)
	}
}

func TestKnownFolds(t *testing.T) {
	for _, c := range []struct {
		h    impl.Graph
		want [][2]int
		can  bool
	}{
		{impl.Graph{Size: 1}, nil, true}, {impl.Graph{Size: 2}, nil, false}, {impl.Graph{Size: 8}, nil, false}, {rowOf(2), [][2]int{{0, 1}}, true}, {rowOf(3), [][2]int{{0, 1}, {1, 2}}, true}, {rowOf(8), [][2]int{{0, 1}, {1, 2}, {2, 3}, {3, 4}, {4, 5}, {5, 6}, {6, 7}}, true},
		{complete(3), [][2]int{{0, 1}, {1, 2}}, true}, {complete(8), [][2]int{{0, 1}, {1, 2}, {2, 3}, {3, 4}, {4, 5}, {5, 6}, {6, 7}}, true}, {starOf(4), [][2]int{{1, 0}, {2, 0}, {0, 3}}, true},
		{cycleOf(4), nil, false}, {cycleOf(5), nil, false}, {cycleOf(8), nil, false}, {prism(), nil, false}, {cube(), nil, false}, {twoSides(3), nil, false}, {grid(), nil, false}, {complete(4), [][2]int{{0, 1}, {1, 2}, {2, 3}}, true},
		{parted(), [][2]int{{0, 1}, {2, 3}}, false}, {looseTriangle(), [][2]int{{0, 1}, {1, 2}}, false}, {twoTriangles(), [][2]int{{0, 1}, {1, 2}, {2, 3}, {3, 4}}, false}, {impl.Graph{Size: 5, Edges: twoTriangles().Edges}, [][2]int{{0, 1}, {1, 2}, {2, 3}, {3, 4}}, true}, {twoBlocks(), [][2]int{{0, 1}, {1, 2}, {2, 3}, {4, 5}, {5, 6}, {6, 7}}, false},
		// A wheel: its hub, which comes first, can be taken away only when few others are left.
		{impl.Graph{Size: 6, Edges: [][2]int{{0, 1}, {0, 2}, {0, 3}, {0, 4}, {0, 5}, {1, 2}, {1, 5}, {2, 3}, {3, 4}, {4, 5}}}, [][2]int{{1, 0}, {2, 0}, {0, 4}, {3, 4}, {4, 5}}, true},
		// A cycle with a node beside it, and one of four nodes with an edge across.
		{impl.Graph{Size: 6, Edges: [][2]int{{0, 1}, {0, 4}, {0, 5}, {1, 2}, {2, 3}, {3, 4}}}, [][2]int{{5, 0}}, false}, {impl.Graph{Size: 4, Edges: [][2]int{{0, 1}, {0, 3}, {1, 2}, {1, 3}, {2, 3}}}, [][2]int{{0, 1}, {1, 2}, {2, 3}}, true},
		// Only the neighbors that are left count: 2 can go for 3 when 0 and 1 are gone.
		{impl.Graph{Size: 5, Edges: [][2]int{{0, 1}, {0, 2}, {1, 2}, {2, 3}, {3, 4}}}, [][2]int{{0, 1}, {1, 2}, {2, 3}, {3, 4}}, true}, {impl.Graph{Size: 5, Edges: [][2]int{{0, 1}, {0, 2}, {1, 3}, {2, 3}, {2, 4}}}, [][2]int{{4, 2}}, false},
	} {
		checkFolds(t, c.h, c.want, c.can)
	}
}

// TestLazySpacesToGraphsThatCanFold have at most one part.
func TestLazySpacesToGraphsThatCanFold(t *testing.T) {
	one, several := 0, 0
	pairs := []graphPair{}
	for _, h := range smallGraphs() {
		for _, g := range mapSources() {
			if math.Pow(float64(h.Size), float64(g.Size)) <= 128 {
				pairs = append(pairs, graphPair{g, h})
			}
		}
	}
	for _, pair := range append(pairs, mapPairs()...) {
		can, _ := impl.CanFold(pair.h)
		count, _ := impl.CountMaps(pair.g, pair.h, true)
		if count > impl.MaxStates || count == 0 {
			continue
		}
		x, ok := impl.MapSpace(pair.g, pair.h, true)
		if isOne := isOnePart(x); !ok || can && !isOne {
			t.Error("several parts", pair, ok)
		} else if !isOne {
			several++
		} else if can && count > 1 {
			one++
		}
	}
	if one < 500 || several < 50 {
		t.Error("too few of a sort", one, several)
	}
}

// TestKnownPartsOfLazySpaces: there may be several though the second Graph has one.
func TestKnownPartsOfLazySpaces(t *testing.T) {
	for _, c := range []struct {
		g, h  impl.Graph
		parts int
	}{
		{impl.Graph{}, cycleOf(5), 1}, {impl.Graph{Size: 1}, cycleOf(5), 1}, {impl.Graph{Size: 1}, impl.Graph{Size: 8}, 1}, {complete(2), impl.Graph{Size: 8}, 8}, {complete(2), cycleOf(5), 1}, {complete(2), twoSquares(), 2},
		// The walks once around 5 nodes stand still, in both directions.
		{cycleOf(5), cycleOf(5), 11}, {cycleOf(4), cycleOf(4), 1}, {cycleOf(4), cycleOf(5), 1}, {cycleOf(5), rowOf(3), 1}, {complete(4), rowOf(3), 1},
	} {
		x, ok := impl.MapSpace(c.g, c.h, true)
		parts, _ := impl.PartsOf(x)
		if !ok || len(parts) != c.parts {
			t.Error("parts", c, len(parts), ok)
		}
	}
}
