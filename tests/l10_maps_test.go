package tests

import (
	"math"
	"math/rand"
	"slices"
	"testing"

	"loop.example/g01128/impl"
)

// bothSorts of maps: those that are not lazy, and those that are.
var bothSorts = []bool{false, true}

func isMapOf(g impl.Graph, h impl.Graph, list []int, lazy bool) bool {
	if len(list) != g.Size || slices.ContainsFunc(list, func(value int) bool { return value < 0 || value >= h.Size }) {
		return false
	}
	return !slices.ContainsFunc(g.Edges, func(edge [2]int) bool {
		a, b := list[edge[0]], list[edge[1]]
		return !hasEdge(h, a, b) && (a != b || !lazy)
	})
}

// mapsOf looks at all lists of values.
func mapsOf(g impl.Graph, h impl.Graph, lazy bool) [][]int {
	maps := [][]int{}
	everyList(g.Size, 0, h.Size-1, func(list []int) {
		if isMapOf(g, h, list, lazy) {
			maps = append(maps, list)
		}
	})
	return maps
}

func mapSpaceOf(maps [][]int) impl.Space {
	return impl.Space{States: maps, Steps: stepsWhere(len(maps), func(i int, j int) bool { return isChange(maps[i], maps[j]) })}
}

type graphPair struct{ g, h impl.Graph }

// smallMapPairs has all pairs of Graphs of at most 3 nodes.
func smallMapPairs() []graphPair {
	graphs := slices.DeleteFunc(smallGraphs(), func(g impl.Graph) bool { return g.Size > 3 })
	pairs := []graphPair{}
	for _, g := range graphs {
		for _, h := range graphs {
			pairs = append(pairs, graphPair{g, h})
		}
	}
	return pairs
}

// mapSources have at most MaxSource nodes, in all ways in which these can be connected.
func mapSources() []impl.Graph {
	sources := []impl.Graph{}
	for n := range impl.MaxSource + 1 {
		sources = append(sources, shapesOf(n)...)
	}
	return sources
}

// mapTargets have up to MaxNodes nodes.
func mapTargets() []impl.Graph { return append(graphsOf(4), chosenMatchingGraphs()...) }

// mapPairs also has pairs from a fixed seed that have no more lists of values than can be looked at.
func mapPairs() []graphPair {
	pairs := smallMapPairs()
	random := rand.New(rand.NewSource(10))
	sources, targets := mapSources(), mapTargets()
	for len(pairs) < 400 {
		pair := graphPair{sources[random.Intn(len(sources))], targets[random.Intn(len(targets))]}
		if pair.hasFewLists() {
			pairs = append(pairs, pair)
		}
	}
	return pairs
}

func (pair graphPair) hasFewLists() bool {
	return math.Pow(float64(pair.h.Size), float64(pair.g.Size)) <= 5000
}

// pairWithMaxMaps has just MaxStates maps, or lazy maps.
func pairWithMaxMaps(lazy bool) graphPair {
	if lazy {
		return graphPair{spokes(), cycleOf(4)}
	}
	return graphPair{looseTriangle(), complete(5)}
}

// pairWithOneMapMore has just MaxStates + 1 maps, or lazy maps.
func pairWithOneMapMore(lazy bool) graphPair {
	if lazy {
		return graphPair{spokes(), impl.Graph{Size: 5, Edges: [][2]int{{0, 4}, {1, 2}, {1, 3}, {1, 4}}}}
	}
	return graphPair{
		impl.Graph{Size: 6, Edges: [][2]int{{0, 2}, {0, 5}, {1, 4}, {2, 3}, {2, 5}, {3, 4}, {3, 5}, {4, 5}}},
		impl.Graph{Size: 8, Edges: [][2]int{{0, 2}, {0, 3}, {1, 2}, {1, 3}, {1, 4}, {2, 3}, {2, 6}, {3, 4}, {3, 6}, {3, 7}, {5, 6}, {6, 7}}},
	}
}

func spokes() impl.Graph {
	return impl.Graph{Size: 6, Edges: [][2]int{{0, 2}, {0, 3}, {0, 4}, {0, 5}, {1, 2}, {1, 3}, {1, 4}, {1, 5}, {2, 3}, {3, 4}, {4, 5}}}
}

func checkIsMap(t *testing.T, pair graphPair, list []int, lazy bool, want bool) {
	t.Helper()
	if is, ok := impl.IsMap(pair.g, pair.h, list, lazy); is != want || !ok {
		t.Error("map", pair, list, lazy, is, ok)
	}
}

// TestIsMap looks at all lists of at most 4 numbers, no nodes among them.
func TestIsMap(t *testing.T) {
	counts := map[[2]bool]int{}
	for _, pair := range smallMapPairs() {
		everyList(4, -1, pair.h.Size, func(list []int) {
			for _, lazy := range bothSorts {
				want := isMapOf(pair.g, pair.h, list, lazy)
				checkIsMap(t, pair, list, lazy, want)
				counts[[2]bool{lazy, want}]++
			}
		})
	}
	if len(counts) != 4 || counts[[2]bool{false, true}] < 400 || counts[[2]bool{true, true}] < 800 {
		t.Error("too few of a sort", counts)
	}
}

// notMaps returns lists that are near to a map, but none.
func notMaps(pair graphPair, list []int, lazy bool) [][]int {
	others := [][]int{append(slices.Clone(list), 0), append([]int{0}, list...), append(slices.Clone(list), -1), make([]int, impl.MaxSource+1), make([]int, 1000)}
	if len(list) > 0 {
		others = append(others, list[1:], list[:len(list)-1], nil)
	}
	for node, value := range list {
		for _, far := range []int{-1, pair.h.Size, pair.h.Size + 1, -pair.h.Size - 1, value - pair.h.Size, value + pair.h.Size, value + 1<<32, value - 1<<32, math.MinInt, math.MinInt + value, math.MaxInt} {
			others = append(others, withColour(list, node, far))
		}
		for other := range pair.h.Size {
			if near := withColour(list, node, other); !isMapOf(pair.g, pair.h, near, lazy) {
				others = append(others, near)
			}
		}
	}
	return others
}

func TestIsMapOfMoreNodes(t *testing.T) {
	for _, pair := range mapPairs() {
		for _, lazy := range bothSorts {
			for _, list := range spread(mapsOf(pair.g, pair.h, lazy), 5) {
				checkIsMap(t, pair, list, lazy, true)
				checkIsMap(t, pair, list, true, true) // each map is also a lazy one
				for _, other := range notMaps(pair, list, lazy) {
					checkIsMap(t, pair, other, lazy, false)
				}
			}
		}
	}
}

func TestKnownMaps(t *testing.T) {
	edge, row := rowOf(2), rowOf(3)
	for _, c := range []struct {
		g, h          impl.Graph
		list          []int
		isMap, isLazy bool
	}{
		{impl.Graph{}, impl.Graph{}, nil, true, true}, {impl.Graph{}, complete(8), []int{}, true, true}, {impl.Graph{}, complete(8), []int{0}, false, false}, {impl.Graph{Size: 1}, impl.Graph{}, nil, false, false},
		{impl.Graph{Size: 1}, impl.Graph{}, []int{0}, false, false}, {impl.Graph{Size: 1}, impl.Graph{Size: 1}, []int{0}, true, true}, {impl.Graph{Size: 1}, impl.Graph{Size: 1}, []int{1}, false, false}, {impl.Graph{Size: 1}, impl.Graph{Size: 8}, []int{7}, true, true},
		{edge, impl.Graph{Size: 1}, []int{0, 0}, false, true}, {edge, impl.Graph{Size: 2}, []int{0, 1}, false, false}, {edge, edge, []int{1, 0}, true, true}, {edge, edge, []int{1, 1}, false, true}, {edge, row, []int{0, 2}, false, false}, {edge, row, []int{2, 1}, true, true},
		{row, edge, []int{1, 0, 1}, true, true}, {row, edge, []int{1, 0, 0}, false, true}, {row, edge, []int{1, 0, 2}, false, false}, {row, edge, []int{1, 0}, false, false}, {row, edge, []int{1, 0, 1, 0}, false, false},
		{cycleOf(5), cycleOf(5), []int{0, 1, 2, 3, 4}, true, true}, {cycleOf(5), cycleOf(5), []int{2, 1, 0, 4, 3}, true, true}, {cycleOf(5), cycleOf(5), []int{0, 1, 2, 2, 1}, false, true}, {cycleOf(5), complete(3), []int{0, 1, 2, 0, 1}, true, true}, {cycleOf(5), complete(3), []int{0, 1, 2, 1, 0}, false, true},
		{cycleOf(6), cycleOf(4), []int{0, 1, 2, 3, 2, 1}, true, true}, {cycleOf(6), cycleOf(8), []int{0, 1, 2, 3, 4, 5}, false, false}, {cycleOf(6), cycleOf(8), []int{7, 0, 1, 0, 7, 6}, true, true}, {complete(6), complete(8), []int{7, 5, 3, 1, 0, 2}, true, true}, {complete(6), complete(8), []int{7, 5, 3, 1, 0, 7}, false, true},
		// Neighbors may be those of an edge in either order, and nodes that are no neighbors may have any values.
		{impl.Graph{Size: 6, Edges: [][2]int{{2, 5}}}, impl.Graph{Size: 8, Edges: [][2]int{{3, 6}}}, []int{0, 7, 6, 1, 4, 3}, true, true}, {impl.Graph{Size: 6, Edges: [][2]int{{2, 5}}}, impl.Graph{Size: 8, Edges: [][2]int{{3, 6}}}, []int{3, 6, 6, 6, 3, 0}, false, false},
	} {
		checkIsMap(t, graphPair{c.g, c.h}, c.list, false, c.isMap)
		checkIsMap(t, graphPair{c.g, c.h}, c.list, true, c.isLazy)
	}
}

func TestCountMapsAndFirstMap(t *testing.T) {
	none, some := map[bool]int{}, map[bool]int{}
	for _, pair := range mapPairs() {
		for _, lazy := range bothSorts {
			maps := mapsOf(pair.g, pair.h, lazy)
			if count, ok := impl.CountMaps(pair.g, pair.h, lazy); !ok || count != len(maps) {
				t.Error("count", pair, lazy, count, ok, len(maps))
			}
			if len(maps) == 0 {
				failAll(t, []aCall{firstMapCall(pair, lazy)}, "no map")
				none[lazy]++
				continue
			}
			if first, ok := impl.FirstMap(pair.g, pair.h, lazy); !ok || !slices.Equal(first, maps[0]) {
				t.Error("first", pair, lazy, first, ok, maps[0])
			}
			some[lazy]++
		}
	}
	if none[false] < 50 || none[true] < 10 || some[false] < 50 || some[true] < 200 {
		t.Error("too few of a sort", none, some)
	}
}

func TestKnownNumbersOfMaps(t *testing.T) {
	for _, c := range []struct {
		g, h       impl.Graph
		maps, lazy int
	}{
		{impl.Graph{}, impl.Graph{}, 1, 1}, {impl.Graph{}, impl.Graph{Size: 8}, 1, 1}, {impl.Graph{Size: 1}, impl.Graph{}, 0, 0}, {impl.Graph{Size: 6}, impl.Graph{}, 0, 0}, {complete(6), impl.Graph{}, 0, 0},
		{impl.Graph{Size: 1}, impl.Graph{Size: 1}, 1, 1}, {impl.Graph{Size: 1}, complete(8), 8, 8}, {impl.Graph{Size: 6}, impl.Graph{Size: 8}, 262144, 262144}, {impl.Graph{Size: 6}, impl.Graph{Size: 1}, 1, 1}, {complete(6), impl.Graph{Size: 1}, 0, 1},
		{complete(2), impl.Graph{Size: 8}, 0, 8}, {complete(6), impl.Graph{Size: 8}, 0, 8}, {parted(), impl.Graph{Size: 8}, 0, 512}, {complete(6), complete(5), 0, 15625}, {complete(6), complete(6), 720, 46656}, {complete(6), complete(8), 20160, 262144},
		{rowOf(6), complete(2), 2, 64}, {rowOf(6), complete(8), 8 * 16807, 262144}, {rowOf(6), twoBlocks(), 8 * 243, 8 * 1024}, {cycleOf(5), complete(2), 0, 32}, {cycleOf(6), complete(2), 2, 64}, {complete(3), cycleOf(4), 0, 28}, {rowOf(2), cube(), 24, 32},
		// Closed walks are counted by powers of a matrix.
		{cycleOf(5), cycleOf(5), 10, 265}, {cycleOf(6), cycleOf(3), 66, 729}, {cycleOf(6), cycleOf(4), 128, 732}, {cycleOf(6), cycleOf(8), 160, 8 * 141}, {cycleOf(6), starOf(8), 2 * 343, 2*(1+15*7+15*49+343) + 6},
		{looseTriangle(), complete(5), 300, 625}, {spokes(), cycleOf(4), 0, 300},
	} {
		count, ok := impl.CountMaps(c.g, c.h, false)
		lazy, isLazy := impl.CountMaps(c.g, c.h, true)
		if !ok || !isLazy || count != c.maps || lazy != c.lazy {
			t.Error("count", c, count, lazy)
		}
	}
}

func TestKnownFirstMaps(t *testing.T) {
	for _, c := range []struct {
		g, h       impl.Graph
		maps, lazy []int
	}{
		{impl.Graph{}, impl.Graph{}, []int{}, []int{}}, {impl.Graph{}, impl.Graph{Size: 8}, []int{}, []int{}}, {impl.Graph{Size: 6}, impl.Graph{Size: 8}, make([]int, 6), make([]int, 6)},
		{rowOf(3), impl.Graph{Size: 4, Edges: [][2]int{{1, 3}, {2, 3}}}, []int{1, 3, 1}, make([]int, 3)}, {rowOf(6), rowOf(8), []int{0, 1, 0, 1, 0, 1}, make([]int, 6)}, {complete(6), complete(6), numbersBelow(6), make([]int, 6)}, {complete(3), twoTriangles(), []int{0, 1, 2}, make([]int, 3)},
		// The first nodes go on with a value only where the others find theirs.
		{complete(3), impl.Graph{Size: 8, Edges: [][2]int{{0, 1}, {0, 2}, {3, 5}, {3, 7}, {5, 7}}}, []int{3, 5, 7}, make([]int, 3)}, {cycleOf(5), cycleOf(5), []int{0, 1, 2, 3, 4}, make([]int, 5)}, {cycleOf(5), impl.Graph{Size: 6, Edges: [][2]int{{0, 3}, {1, 2}, {1, 5}, {2, 5}}}, []int{1, 2, 1, 2, 5}, make([]int, 5)},
		{complete(6), complete(5), nil, make([]int, 6)}, {cycleOf(5), cube(), nil, make([]int, 5)}, {complete(2), impl.Graph{Size: 8}, nil, make([]int, 2)}, {impl.Graph{Size: 1}, impl.Graph{}, nil, nil}, {complete(6), impl.Graph{}, nil, nil},
	} {
		for lazy, want := range map[bool][]int{false: c.maps, true: c.lazy} {
			if want == nil {
				failAll(t, []aCall{firstMapCall(graphPair{c.g, c.h}, lazy)}, "no map")
			} else if first, ok := impl.FirstMap(c.g, c.h, lazy); !ok || !slices.Equal(first, want) {
				t.Error("first", c, lazy, first, ok)
			}
		}
	}
}

func TestMapSpace(t *testing.T) {
	few, many := map[bool]int{}, 0
	for _, pair := range append(mapPairs(), pairWithMaxMaps(false), pairWithMaxMaps(true), pairWithOneMapMore(false)) {
		for _, lazy := range bothSorts {
			maps := mapsOf(pair.g, pair.h, lazy)
			if len(maps) > impl.MaxStates {
				failAll(t, []aCall{mapSpaceCall(pair, lazy)}, "more than MaxStates")
				many++
				continue
			}
			if x, ok := impl.MapSpace(pair.g, pair.h, lazy); !ok || !impl.IsSpace(x) || !sameSpace(x, mapSpaceOf(maps)) {
				t.Error("space", pair, lazy, x, ok)
			}
			few[len(maps) > 0]++
		}
	}
	if few[true] < 300 || few[false] < 50 || many < 100 {
		t.Error("too few of a sort", few, many)
	}
}

func TestKnownMapSpaces(t *testing.T) {
	for _, c := range []struct {
		g, h          impl.Graph
		lazy          bool
		states, steps int
	}{
		{impl.Graph{}, impl.Graph{}, false, 1, 0}, {impl.Graph{}, complete(8), true, 1, 0}, {impl.Graph{Size: 1}, impl.Graph{}, true, 0, 0}, {impl.Graph{Size: 1}, impl.Graph{Size: 8}, false, 8, 28}, {impl.Graph{Size: 2}, impl.Graph{Size: 8}, false, 64, 448},
		{complete(3), complete(3), false, 6, 0}, {complete(3), complete(3), true, 27, 81}, {complete(6), complete(5), false, 0, 0}, {cycleOf(4), complete(2), false, 2, 0}, {cycleOf(4), complete(2), true, 16, 32}, {rowOf(2), rowOf(3), false, 4, 2}, {rowOf(2), rowOf(3), true, 7, 10},
		// The steps of a colouring with 5 colours: 180 of the triangle for each colour of the loose node, and 10 of this one for each of the 60 others.
		{looseTriangle(), complete(5), false, 300, 1500}, {complete(6), impl.Graph{Size: 8}, true, 8, 0}, {cycleOf(6), cycleOf(8), false, 160, 288},
	} {
		x, ok := impl.MapSpace(c.g, c.h, c.lazy)
		if !ok || len(x.States) != c.states || len(x.Steps) != c.steps {
			t.Error("space", c, len(x.States), len(x.Steps), ok)
		}
	}
	x, _ := impl.MapSpace(rowOf(2), rowOf(3), true)
	want := impl.Space{States: [][]int{{0, 0}, {0, 1}, {1, 0}, {1, 1}, {1, 2}, {2, 1}, {2, 2}}, Steps: [][2]int{{0, 1}, {0, 2}, {1, 3}, {1, 5}, {2, 3}, {2, 4}, {3, 4}, {3, 5}, {4, 6}, {5, 6}}}
	if !sameSpace(x, want) {
		t.Error("lazy space of a row", x)
	}
}

// TestMapsThatAreTooMany: MaxStates maps are not, one more is.
func TestMapsThatAreTooMany(t *testing.T) {
	for _, lazy := range bothSorts {
		pair := pairWithMaxMaps(lazy)
		count, _ := impl.CountMaps(pair.g, pair.h, lazy)
		first, _ := impl.FirstMap(pair.g, pair.h, lazy)
		if count != impl.MaxStates || !mapSpaceCall(pair, lazy).succeeds() || !mapWayCall(pair, first, first, lazy).succeeds() {
			t.Error("as many as MaxStates", pair, lazy, count)
		}
	}
	for _, lazy := range bothSorts {
		more := pairWithOneMapMore(lazy)
		if count, ok := impl.CountMaps(more.g, more.h, lazy); !ok || count != impl.MaxStates+1 {
			t.Error("one more than MaxStates", lazy, count, ok)
		}
	}
	for _, c := range []struct {
		pair graphPair
		lazy bool
	}{
		{pairWithOneMapMore(false), false}, {pairWithOneMapMore(true), true}, {graphPair{looseTriangle(), complete(5)}, true}, {graphPair{impl.Graph{Size: 3}, impl.Graph{Size: 7}}, false}, {graphPair{impl.Graph{Size: 6}, impl.Graph{Size: 8}}, false}, {graphPair{complete(6), complete(8)}, false},
		{graphPair{complete(6), complete(8)}, true}, {graphPair{cycleOf(6), cycleOf(3)}, true}, {graphPair{complete(6), complete(6)}, false},
	} {
		first, ok := impl.FirstMap(c.pair.g, c.pair.h, c.lazy)
		if !ok {
			t.Error("no map", c)
		}
		failAll(t, []aCall{mapSpaceCall(c.pair, c.lazy), mapWayCall(c.pair, first, first, c.lazy)}, "more than MaxStates")
	}
}

// TestMapWay holds the ways against all shortest ways where there are few maps, and follows them
// step by step where there are more.
func TestMapWay(t *testing.T) {
	random := rand.New(rand.NewSource(10))
	for k, pair := range mapPairs() {
		for _, lazy := range bothSorts {
			maps := mapsOf(pair.g, pair.h, lazy)
			wayOf := func(a []int, b []int) ([][]int, bool) { return impl.MapWay(pair.g, pair.h, a, b, lazy) }
			if len(maps) > 0 && len(maps) <= 40 {
				checkWalks(t, mapSpaceOf(maps), random, wayOf)
			} else if len(maps) > 0 && len(maps) <= 100 || k%8 == 0 && len(maps) > 0 && len(maps) <= impl.MaxStates {
				checkFirstWays(t, mapSpaceOf(maps), random, wayOf)
			}
		}
	}
}

func TestKnownMapWays(t *testing.T) {
	row, five := rowOf(3), cycleOf(5)
	for _, c := range []struct {
		g, h impl.Graph
		lazy bool
		want [][]int
	}{
		{impl.Graph{}, impl.Graph{}, false, [][]int{{}}}, {impl.Graph{}, complete(8), true, [][]int{{}}}, {impl.Graph{Size: 1}, impl.Graph{Size: 8}, false, [][]int{{6}, {2}}}, {impl.Graph{Size: 1}, impl.Graph{Size: 8}, false, [][]int{{5}}},
		{rowOf(2), row, false, [][]int{{0, 1}, {2, 1}}}, {rowOf(2), row, true, [][]int{{0, 1}, {0, 0}, {1, 0}}}, {rowOf(2), row, true, [][]int{{0, 0}, {0, 1}, {2, 1}, {2, 2}}}, {rowOf(2), row, true, [][]int{{0, 1}, {2, 1}}},
		{impl.Graph{Size: 2}, impl.Graph{Size: 3}, false, [][]int{{2, 0}, {1, 0}, {1, 1}}}, {cycleOf(4), complete(3), false, [][]int{{0, 1, 0, 1}, {0, 1, 2, 1}, {2, 1, 2, 1}, {2, 1, 2, 0}}},
		{cycleOf(4), five, false, [][]int{{0, 1, 0, 4}, {0, 1, 0, 1}, {0, 1, 2, 1}, {2, 1, 2, 1}}}, {cycleOf(4), five, false, [][]int{{0, 1, 0, 4}, {0, 1, 0, 1}, {0, 1, 2, 1}}}, {five, five, false, [][]int{{2, 3, 4, 0, 1}}},
	} {
		way, ok := impl.MapWay(c.g, c.h, c.want[0], c.want[len(c.want)-1], c.lazy)
		if !ok || !sameLists(way, c.want) {
			t.Error("way", c, way, ok)
		}
	}
	for _, c := range []struct {
		g, h impl.Graph
		a, b []int
	}{
		{rowOf(2), row, []int{0, 1}, []int{1, 0}}, {cycleOf(4), complete(2), []int{0, 1, 0, 1}, []int{1, 0, 1, 0}}, {five, five, []int{0, 1, 2, 3, 4}, []int{1, 2, 3, 4, 0}}, {complete(3), complete(3), []int{0, 1, 2}, []int{0, 2, 1}},
		{rowOf(2), twoSquares(), []int{0, 1}, []int{4, 5}}, {cycleOf(6), complete(3), []int{0, 1, 2, 0, 1, 2}, []int{0, 1, 0, 1, 0, 1}}, {cycleOf(6), cycleOf(6), []int{0, 1, 0, 1, 0, 1}, []int{1, 0, 1, 0, 1, 0}},
	} {
		failAll(t, []aCall{mapWayCall(graphPair{c.g, c.h}, c.a, c.b, false)}, "no way")
	}
	// No value of a walk around 5 nodes can change alone, and each one can around 4 nodes.
	failAll(t, []aCall{mapWayCall(graphPair{five, five}, numbersBelow(5), make([]int, 5), true)}, "no lazy way")
	succeedAll(t, []aCall{mapWayCall(graphPair{cycleOf(4), cycleOf(4)}, numbersBelow(4), make([]int, 4), true)})
}

// TestMapWayFailsForListsThatAreNoMaps at either end, and at both.
func TestMapWayFailsForListsThatAreNoMaps(t *testing.T) {
	for _, pair := range mapPairs() {
		for _, lazy := range bothSorts {
			maps := mapsOf(pair.g, pair.h, lazy)
			if len(maps) > 40 {
				continue // each call looks for all of them
			}
			for _, list := range spread(maps, 2) {
				for _, other := range notMaps(pair, list, lazy) {
					failAll(t, []aCall{mapWayCall(pair, list, other, lazy), mapWayCall(pair, other, list, lazy), mapWayCall(pair, other, other, lazy)}, "no map")
				}
			}
		}
	}
}
