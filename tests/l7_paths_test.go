package tests

import (
	"math/rand"
	"slices"
	"testing"

	"loop.example/g01128/impl"
)

// pathsOf returns all lists of different nodes from s to t, each a neighbor of the one before it.
func pathsOf(g impl.Graph, s int, t int) [][]int {
	paths := [][]int{}
	var extend func(path []int)
	extend = func(path []int) {
		last := path[len(path)-1]
		if last == t {
			paths = append(paths, path)
			return
		}
		for next := g.Size - 1; next >= 0; next-- {
			if hasEdge(g, last, next) && !slices.Contains(path, next) {
				extend(append(slices.Clone(path), next))
			}
		}
	}
	extend([]int{s})
	return paths
}

// waysBetween returns the paths with the fewest nodes, in lexicographic order.
func waysBetween(g impl.Graph, s int, t int) [][]int {
	paths := pathsOf(g, s, t)
	slices.SortFunc(paths, compareSets)
	return slices.DeleteFunc(paths, func(path []int) bool { return len(path) > len(paths[0]) })
}

func isTurn(a []int, b []int) bool { return len(nodesApart(a, b)) == 1 }

func waySpace(g impl.Graph, s int, t int) impl.Space {
	ways := waysBetween(g, s, t)
	return impl.Space{States: ways, Steps: stepsWhere(len(ways), func(i int, j int) bool { return isTurn(ways[i], ways[j]) })}
}

// layersBetween counts on distances alone.
func layersBetween(g impl.Graph, s int, t int) [][]int {
	layers := [][]int{}
	table := nodeDistances(g)
	for d := range table[s][t] + 1 {
		layer := []int{}
		for node := range g.Size {
			if table[s][node] == d && table[node][t] == table[s][t]-d {
				layer = append(layer, node)
			}
		}
		layers = append(layers, layer)
	}
	return layers
}

// layeredGraph returns the Graph in which each node of a layer is a neighbor of each node of the
// next one. The nodes of each layer come behind those of the layer before it.
func layeredGraph(sizes ...int) impl.Graph {
	layerOf := []int{}
	for layer, size := range sizes {
		layerOf = append(layerOf, slices.Repeat([]int{layer}, size)...)
	}
	isOther := func(pair [2]int) bool { return layerOf[pair[1]] != layerOf[pair[0]]+1 }
	return impl.Graph{Size: len(layerOf), Edges: slices.DeleteFunc(pairsOf(len(layerOf)), isOther)}
}

// withoutEdges returns a Graph without some of its edges.
func withoutEdges(g impl.Graph, edges ...[2]int) impl.Graph {
	isAway := func(edge [2]int) bool { return slices.Contains(edges, edge) }
	return impl.Graph{Size: g.Size, Edges: slices.DeleteFunc(slices.Clone(g.Edges), isAway)}
}

// layeredGraphs have several shortest ways, with walks of turns between all, some or none.
func layeredGraphs() []impl.Graph {
	return []impl.Graph{
		layeredGraph(1, 2, 1), layeredGraph(1, 6, 1), layeredGraph(1, 3, 3, 1), layeredGraph(1, 2, 4, 1), layeredGraph(1, 2, 2, 2, 1), layeredGraph(1, 2, 1, 2, 1), layeredGraph(2, 3, 3),
		withoutEdges(layeredGraph(1, 3, 3, 1), [2]int{1, 6}, [2]int{3, 4}), withoutEdges(layeredGraph(1, 3, 3, 1), [2]int{1, 4}, [2]int{2, 5}, [2]int{3, 6}),
		withoutEdges(layeredGraph(1, 3, 3, 1), [2]int{1, 5}, [2]int{1, 6}, [2]int{2, 4}, [2]int{2, 6}, [2]int{3, 4}, [2]int{3, 5}),
		withoutEdges(layeredGraph(1, 2, 2, 2, 1), [2]int{1, 4}), withoutEdges(layeredGraph(1, 2, 2, 2, 1), [2]int{1, 4}, [2]int{4, 5}),
		withoutEdges(layeredGraph(1, 2, 2, 2, 1), [2]int{1, 4}, [2]int{2, 3}, [2]int{3, 6}, [2]int{4, 5}),
	}
}

func pathGraphs() []impl.Graph {
	return slices.Concat(graphsOf(4), chosenGraphs(), layeredGraphs())
}

func TestShortestWays(t *testing.T) {
	for _, g := range pathGraphs() {
		for s := range g.Size {
			for e := range g.Size {
				want := waysBetween(g, s, e)
				count, one := impl.CountWays(g, s, e)
				ways, two := impl.ShortestWays(g, s, e)
				layers, three := impl.LayersOf(g, s, e)
				x, four := impl.WaySpace(g, s, e)
				if !one || count != len(want) || !three || !sameLists(layers, layersBetween(g, s, e)) {
					t.Fatal("number and layers", g, s, e, count, one, layers, three)
				}
				if two != (count > 0) || !sameLists(ways, want) {
					t.Fatal("ways", g, s, e, ways, two)
				}
				if four != (count > 0) || !impl.IsSpace(x) || !sameSpace(x, waySpace(g, s, e)) {
					t.Fatal("space", g, s, e, x, four)
				}
			}
		}
	}
}

// TestEachWayHasANodeOfEachLayer, and each node of a layer is in a way.
func TestEachWayHasANodeOfEachLayer(t *testing.T) {
	for _, g := range pathGraphs() {
		for s := range g.Size {
			for e := range g.Size {
				ways, _ := impl.ShortestWays(g, s, e)
				layers, _ := impl.LayersOf(g, s, e)
				for d, layer := range layers {
					if !slices.IsSorted(layer) {
						t.Error("not ascending", g, s, e, layers)
					}
					for _, way := range ways {
						if len(way) != len(layers) || !slices.Contains(layer, way[d]) {
							t.Error("not in the layer", g, s, e, way, layers)
						}
					}
					for _, node := range layer {
						if !slices.ContainsFunc(ways, func(way []int) bool { return way[d] == node }) {
							t.Error("in no way", g, s, e, node, ways)
						}
					}
				}
			}
		}
	}
}

func TestKnownWays(t *testing.T) {
	for _, c := range []struct {
		g          impl.Graph
		s, e, want int
		layers     [][]int
	}{
		{impl.Graph{Size: 1}, 0, 0, 1, [][]int{{0}}}, {impl.Graph{Size: 8}, 7, 7, 1, [][]int{{7}}}, {impl.Graph{Size: 8}, 7, 0, 0, nil}, {impl.Graph{Size: 2}, 0, 1, 0, nil},
		{complete(8), 3, 3, 1, [][]int{{3}}}, {complete(8), 3, 5, 1, [][]int{{3}, {5}}}, {rowOf(2), 1, 0, 1, [][]int{{1}, {0}}},
		{rowOf(8), 7, 0, 1, [][]int{{7}, {6}, {5}, {4}, {3}, {2}, {1}, {0}}}, {cycleOf(8), 0, 4, 2, [][]int{{0}, {1, 7}, {2, 6}, {3, 5}, {4}}},
		{cycleOf(7), 0, 4, 1, [][]int{{0}, {6}, {5}, {4}}}, {starOf(8), 3, 7, 1, [][]int{{3}, {0}, {7}}}, {twoSides(4), 0, 3, 4, [][]int{{0}, {4, 5, 6, 7}, {3}}},
		{cube(), 0, 7, 6, [][]int{{0}, {1, 2, 4}, {3, 5, 6}, {7}}}, {layeredGraph(1, 6, 1), 7, 0, 6, [][]int{{7}, {1, 2, 3, 4, 5, 6}, {0}}},
		{layeredGraph(1, 3, 3, 1), 0, 7, 9, [][]int{{0}, {1, 2, 3}, {4, 5, 6}, {7}}}, {layeredGraph(1, 2, 2, 2, 1), 0, 7, 8, [][]int{{0}, {1, 2}, {3, 4}, {5, 6}, {7}}},
		{parted(), 0, 1, 1, [][]int{{0}, {1}}}, {parted(), 0, 3, 0, nil}, {parted(), 4, 4, 1, [][]int{{4}}},
		{twoTriangles(), 0, 4, 1, [][]int{{0}, {2}, {4}}}, {twoTriangles(), 5, 4, 0, nil}, {impl.Graph{Size: 8, Edges: pairsOf(8)[1:]}, 0, 1, 6, [][]int{{0}, {2, 3, 4, 5, 6, 7}, {1}}},
	} {
		count, one := impl.CountWays(c.g, c.s, c.e)
		ways, two := impl.ShortestWays(c.g, c.s, c.e)
		layers, three := impl.LayersOf(c.g, c.s, c.e)
		x, four := impl.WaySpace(c.g, c.s, c.e)
		if !one || !three || count != c.want || !sameLists(layers, c.layers) {
			t.Error("number and layers", c, count, layers)
		}
		if has := c.want > 0; two != has || four != has || len(ways) != c.want || len(x.States) != c.want {
			t.Error("ways and space", c, ways, two, x, four)
		}
	}
}

// TestNoGraphHasMoreThanNineWays: the layers between both ends have at most six nodes, and each
// number of nodes is tried for each of them. So there are never more than MaxStates ways.
func TestNoGraphHasMoreThanNineWays(t *testing.T) {
	most := 0
	var fill func(left int, sizes []int)
	fill = func(left int, sizes []int) {
		g := layeredGraph(append(slices.Clone(sizes), 1)...)
		want := 1
		for _, size := range sizes {
			want *= size
		}
		count, ok := impl.CountWays(g, 0, g.Size-1)
		ways, fine := impl.ShortestWays(g, 0, g.Size-1)
		if !ok || !fine || count != want || len(ways) != want {
			t.Fatal("layers", sizes, count, ways)
		}
		most = max(most, count)
		for size := 1; size <= left; size++ {
			fill(left-size, append(slices.Clone(sizes), size))
		}
	}
	fill(impl.MaxNodes-2, []int{1})
	if most != 9 || most > impl.MaxStates {
		t.Error("the most ways", most)
	}
}

func TestWalksOfWays(t *testing.T) {
	random := rand.New(rand.NewSource(91))
	walked, parts := 0, 0
	for _, g := range pathGraphs() {
		for s := range g.Size {
			for e := range g.Size {
				x := waySpace(g, s, e)
				checkWalks(t, x, random, func(a []int, b []int) ([][]int, bool) { return impl.WayWalk(g, a, b) })
				if len(x.States) > 1 && isOnePart(x) {
					walked++
				} else if len(x.States) > 1 {
					parts++
				}
			}
		}
	}
	if walked < 1000 || parts < 50 {
		t.Error("too few", walked, parts)
	}
}

func TestKnownWalksOfWays(t *testing.T) {
	type lists = [][]int
	full := layeredGraph(1, 2, 2, 2, 1)
	for _, c := range []struct {
		g    impl.Graph
		a, b []int
		want lists
	}{
		{impl.Graph{Size: 1}, []int{0}, []int{0}, lists{{0}}}, {impl.Graph{Size: 8}, []int{5}, []int{5}, lists{{5}}}, {rowOf(2), []int{1, 0}, []int{1, 0}, lists{{1, 0}}},
		{cycleOf(4), []int{0, 3, 2}, []int{0, 1, 2}, lists{{0, 3, 2}, {0, 1, 2}}}, {cycleOf(6), []int{0, 1, 2, 3}, []int{0, 5, 4, 3}, nil}, {cycleOf(6), []int{0, 5, 4, 3}, []int{0, 5, 4, 3}, lists{{0, 5, 4, 3}}},
		{layeredGraph(1, 6, 1), []int{0, 6, 7}, []int{0, 1, 7}, lists{{0, 6, 7}, {0, 1, 7}}},
		// Both nodes turn, and the one that makes the lesser way turns first.
		{layeredGraph(1, 3, 3, 1), []int{0, 1, 4, 7}, []int{0, 3, 6, 7}, lists{{0, 1, 4, 7}, {0, 1, 6, 7}, {0, 3, 6, 7}}},
		{layeredGraph(1, 3, 3, 1), []int{0, 3, 6, 7}, []int{0, 1, 4, 7}, lists{{0, 3, 6, 7}, {0, 1, 6, 7}, {0, 1, 4, 7}}},
		{full, []int{0, 1, 3, 5, 7}, []int{0, 2, 4, 6, 7}, lists{{0, 1, 3, 5, 7}, {0, 1, 3, 6, 7}, {0, 1, 4, 6, 7}, {0, 2, 4, 6, 7}}},
		// Without 1-4, the node 2 comes before 4.
		{withoutEdges(full, [2]int{1, 4}), []int{0, 1, 3, 5, 7}, []int{0, 2, 4, 6, 7}, lists{{0, 1, 3, 5, 7}, {0, 1, 3, 6, 7}, {0, 2, 3, 6, 7}, {0, 2, 4, 6, 7}}},
		{withoutEdges(full, [2]int{1, 4}, [2]int{4, 5}), []int{0, 2, 4, 6, 7}, []int{0, 1, 3, 5, 7}, lists{{0, 2, 4, 6, 7}, {0, 2, 3, 6, 7}, {0, 1, 3, 6, 7}, {0, 1, 3, 5, 7}}},
		// Each node of a layer has a single neighbor in the next one.
		{withoutEdges(full, [2]int{1, 4}, [2]int{2, 3}), []int{0, 1, 3, 5, 7}, []int{0, 2, 4, 5, 7}, nil}, {withoutEdges(full, [2]int{1, 4}, [2]int{2, 3}), []int{0, 1, 3, 5, 7}, []int{0, 1, 3, 6, 7}, lists{{0, 1, 3, 5, 7}, {0, 1, 3, 6, 7}}},
		// In the cube the ways are a circle of six turns, and so there are two shortest walks to the other side.
		{cube(), []int{0, 1, 3, 7}, []int{0, 4, 6, 7}, lists{{0, 1, 3, 7}, {0, 1, 5, 7}, {0, 4, 5, 7}, {0, 4, 6, 7}}},
		{cube(), []int{0, 1, 3, 7}, []int{0, 2, 6, 7}, lists{{0, 1, 3, 7}, {0, 2, 3, 7}, {0, 2, 6, 7}}},
	} {
		walk, ok := impl.WayWalk(c.g, c.a, c.b)
		if ok != (len(c.want) > 0) || !sameLists(walk, c.want) {
			t.Error("walk", c, walk, ok)
		}
	}
}
