package tests

import (
	"math/rand"
	"testing"

	"loop.example/g01128/impl"
)

// afterOf returns the value of b for each value of a.
func afterOf(a []int, b []int) []int {
	after := make([]int, len(a))
	for node := range a {
		after[node] = b[a[node]]
	}
	return after
}

type graphTriple struct{ g, h, k impl.Graph }

func (c graphTriple) first() graphPair  { return graphPair{c.g, c.h} }
func (c graphTriple) second() graphPair { return graphPair{c.h, c.k} }

// mapTriples has all of at most 2 nodes, and others from a fixed seed between which there are maps.
func mapTriples(lazy bool) []graphTriple {
	triples := []graphTriple{}
	for _, pair := range smallMapPairs() {
		for _, k := range smallGraphs()[:4] {
			if pair.g.Size < 3 && pair.h.Size < 3 {
				triples = append(triples, graphTriple{pair.g, pair.h, k})
			}
		}
	}
	random := rand.New(rand.NewSource(11))
	sources, targets := mapSources(), mapTargets()
	for len(triples) < 400 {
		c := graphTriple{sources[random.Intn(len(sources))], sources[random.Intn(len(sources))], targets[random.Intn(len(targets))]}
		if !c.first().hasFewLists() || !c.second().hasFewLists() {
			continue
		}
		one, _ := impl.FirstMap(c.g, c.h, lazy)
		two, _ := impl.FirstMap(c.h, c.k, lazy)
		if len(one) > 0 && len(two) > 0 {
			triples = append(triples, c)
		}
	}
	return triples
}

func someMaps(pair graphPair, lazy bool, most int) [][]int {
	return spread(mapsOf(pair.g, pair.h, lazy), most)
}

func TestAfterMap(t *testing.T) {
	sizes := map[int]int{}
	for _, lazy := range bothSorts {
		for _, c := range mapTriples(lazy) {
			second := someMaps(c.second(), lazy, 6)
			for _, a := range someMaps(c.first(), lazy, 6) {
				for _, b := range second {
					want := afterOf(a, b)
					after, ok := impl.AfterMap(c.g, c.h, c.k, a, b, lazy)
					if !ok || !sameLists([][]int{after}, [][]int{want}) || !isMapOf(c.g, c.k, after, lazy) {
						t.Error("after", c, a, b, lazy, after, ok)
					}
					sizes[c.h.Size]++
				}
			}
		}
	}
	for n := range impl.MaxSource + 1 {
		if sizes[n] == 0 {
			t.Error("none with a size", n, sizes)
		}
	}
}

func TestKnownAfterMaps(t *testing.T) {
	edge, row := rowOf(2), rowOf(3)
	for _, c := range []struct {
		triple     graphTriple
		a, b, want []int
		lazy       bool
	}{
		{graphTriple{impl.Graph{}, impl.Graph{}, impl.Graph{}}, nil, nil, nil, false}, {graphTriple{impl.Graph{}, row, edge}, nil, []int{0, 1, 0}, nil, false}, {graphTriple{edge, row, edge}, []int{1, 2}, []int{1, 0, 1}, []int{0, 1}, false},
		{graphTriple{row, edge, row}, []int{1, 0, 1}, []int{2, 1}, []int{1, 2, 1}, false}, {graphTriple{edge, row, edge}, []int{1, 1}, []int{1, 0, 0}, []int{0, 0}, true}, {graphTriple{edge, row, impl.Graph{Size: 1}}, []int{1, 2}, []int{0, 0, 0}, []int{0, 0}, true},
		{graphTriple{cycleOf(6), cycleOf(3), complete(8)}, []int{0, 1, 2, 0, 1, 2}, []int{7, 5, 6}, []int{7, 5, 6, 7, 5, 6}, false}, {graphTriple{complete(6), complete(6), complete(8)}, []int{5, 4, 3, 2, 1, 0}, []int{7, 6, 0, 1, 2, 3}, []int{3, 2, 1, 0, 6, 7}, false},
		{graphTriple{impl.Graph{Size: 6}, impl.Graph{Size: 6}, impl.Graph{Size: 8}}, []int{5, 5, 5, 0, 0, 1}, []int{7, 6, 0, 0, 0, 1}, []int{1, 1, 1, 7, 7, 6}, false},
	} {
		after, ok := impl.AfterMap(c.triple.g, c.triple.h, c.triple.k, c.a, c.b, c.lazy)
		if !ok || !sameLists([][]int{after}, [][]int{c.want}) {
			t.Error("after", c, after, ok)
		}
	}
	for _, c := range []struct {
		triple graphTriple
		a, b   []int
	}{
		// What is a lazy map for both would do for none of them otherwise.
		{graphTriple{edge, row, edge}, []int{1, 1}, []int{1, 0, 1}}, {graphTriple{edge, row, edge}, []int{0, 1}, []int{1, 0, 0}}, {graphTriple{edge, row, edge}, []int{0, 1}, []int{1, 0}}, {graphTriple{edge, row, edge}, []int{0, 1, 0}, []int{1, 0, 1}},
		{graphTriple{edge, row, edge}, []int{0, 1}, []int{0, 1, 2}}, {graphTriple{edge, row, edge}, []int{2, 3}, []int{0, 1, 0}}, {graphTriple{edge, impl.Graph{Size: 2}, edge}, []int{0, 1}, []int{0, 1}}, {graphTriple{edge, edge, impl.Graph{Size: 2}}, []int{0, 1}, []int{0, 1}},
		// Only b after a would be a map.
		{graphTriple{impl.Graph{Size: 2}, edge, impl.Graph{Size: 2}}, []int{0, 1}, []int{0, 1}}, {graphTriple{edge, row, row}, []int{0, 1}, []int{0, 1, 3}}, {graphTriple{edge, row, row}, []int{0, 1}, []int{0, 1, 0, 0}}, {graphTriple{impl.Graph{}, row, edge}, nil, []int{0, 1, 1}}, {graphTriple{impl.Graph{}, row, edge}, nil, nil},
	} {
		failAll(t, []aCall{afterCall(c.triple, c.a, c.b, false)}, "no map")
	}
}

// TestAfterMapFailsForMoreNodes: the lists would be maps otherwise.
func TestAfterMapFailsForMoreNodes(t *testing.T) {
	for n := impl.MaxSource; n <= impl.MaxNodes; n++ {
		all, six := numbersBelow(n), numbersBelow(6)
		for _, great := range []impl.Graph{{Size: n}, complete(n), rowOf(n)} {
			for _, lazy := range bothSorts {
				small := impl.Graph{Size: 6}
				if n == impl.MaxSource {
					succeedAll(t, []aCall{afterCall(graphTriple{small, great, great}, six, all, lazy), afterCall(graphTriple{great, great, great}, all, all, lazy), afterCall(graphTriple{great, great, complete(8)}, all, all, lazy)})
					continue
				}
				calls := []aCall{afterCall(graphTriple{small, great, great}, six, all, lazy), afterCall(graphTriple{impl.Graph{}, great, great}, nil, all, lazy), afterCall(graphTriple{great, great, great}, all, all, lazy)}
				calls = append(calls, afterCall(graphTriple{great, small, great}, make([]int, n), six, true), afterCall(graphTriple{impl.Graph{Size: n}, small, great}, make([]int, n), six, lazy))
				failAll(t, calls, "more than MaxSource nodes")
				// The last Graph may have more.
				succeedAll(t, []aCall{afterCall(graphTriple{rowOf(6), rowOf(6), great}, six, make([]int, 6), true), afterCall(graphTriple{small, small, great}, six, six, lazy)})
			}
		}
	}
}

func TestAfterMapFailsForListsThatAreNoMaps(t *testing.T) {
	for _, lazy := range bothSorts {
		for k, c := range mapTriples(lazy) {
			if k%4 > 0 {
				continue
			}
			for _, a := range someMaps(c.first(), lazy, 2) {
				for _, b := range someMaps(c.second(), lazy, 2) {
					for _, other := range notMaps(c.first(), a, lazy) {
						failAll(t, []aCall{afterCall(c, other, b, lazy)}, "no first map")
					}
					for _, other := range notMaps(c.second(), b, lazy) {
						failAll(t, []aCall{afterCall(c, a, other, lazy)}, "no second map")
					}
				}
			}
		}
	}
}

// TestMapsWithAWayHaveOneBehindTheSameMap is the guarantee on AfterMap: it looks at all steps
// between first maps, and at parts of the space of what comes behind them.
func TestMapsWithAWayHaveOneBehindTheSameMap(t *testing.T) {
	same, changed := 0, 0
	for _, lazy := range bothSorts {
		for _, c := range mapTriples(lazy) {
			x, few := impl.MapSpace(c.g, c.h, lazy)
			after, fewAfter := impl.MapSpace(c.g, c.k, lazy)
			if !few || !fewAfter {
				continue
			}
			least := leastReached(after)
			for _, b := range someMaps(c.second(), lazy, 4) {
				places := []int{}
				for _, a := range x.States {
					list, _ := impl.AfterMap(c.g, c.h, c.k, a, b, lazy)
					places = append(places, indexOf(after.States, list))
				}
				for _, step := range x.Steps {
					i, j := places[step[0]], places[step[1]]
					if least[i] != least[j] {
						t.Error("no way", c, b, lazy, x.States[step[0]], x.States[step[1]])
					}
					if i == j {
						same++
					} else {
						changed++
					}
				}
			}
		}
	}
	if same < 1000 || changed < 1000 {
		t.Error("too few of a sort", same, changed)
	}
}
