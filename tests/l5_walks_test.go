package tests

import (
	"math/rand"
	"slices"
	"testing"

	"loop.example/g01128/impl"
)

// nodesApart returns the nodes that have different colours in two colourings.
func nodesApart(a []int, b []int) []int {
	nodes := []int{}
	for node := range a {
		if a[node] != b[node] {
			nodes = append(nodes, node)
		}
	}
	return nodes
}

func isChange(a []int, b []int) bool { return len(nodesApart(a, b)) == 1 }

func isKempeChange(g impl.Graph, a []int, b []int) bool {
	nodes := nodesApart(a, b)
	return len(nodes) > 0 && slices.Equal(b, kempeChanged(g, a, nodes[0], b[nodes[0]]))
}

// colourSpace compares any two colourings.
func colourSpace(g impl.Graph, k int) impl.Space {
	all := colouringsOf(g, k)
	return impl.Space{States: all, Steps: stepsWhere(len(all), func(i int, j int) bool { return isChange(all[i], all[j]) })}
}

func kempeSpace(g impl.Graph, k int) impl.Space {
	all := colouringsOf(g, k)
	return impl.Space{States: all, Steps: stepsWhere(len(all), func(i int, j int) bool { return isKempeChange(g, all[i], all[j]) })}
}

// hasFew reports whether there are at most MaxStates colourings.
func hasFew(g impl.Graph, k int) bool { return len(colouringsOf(g, k)) <= impl.MaxStates }

// leastReached returns for each State the least place to which there is a way: both places of
// each step take the lesser one of theirs, until nothing changes.
func leastReached(x impl.Space) []int {
	least := []int{}
	for place := range x.States {
		least = append(least, place)
	}
	for before := []int{}; !slices.Equal(before, least); {
		before = slices.Clone(least)
		for _, step := range x.Steps {
			both := min(least[step[0]], least[step[1]])
			least[step[0]], least[step[1]] = both, both
		}
	}
	return least
}

func isOnePart(x impl.Space) bool { return len(x.States) > 0 && slices.Max(leastReached(x)) == 0 }

func TestSpacesOfColourings(t *testing.T) {
	changes, kempe := 0, 0
	for _, g := range append(colourGraphs(), graphsOf(5)[76:300]...) {
		for _, k := range allColours {
			if !hasFew(g, k) {
				continue
			}
			x, one := impl.ColourSpace(g, k)
			y, two := impl.KempeSpace(g, k)
			if !one || !two || !impl.IsSpace(x) || !impl.IsSpace(y) {
				t.Fatal("not valid", g, k, one, two)
			}
			if !sameSpace(x, colourSpace(g, k)) || !sameSpace(y, kempeSpace(g, k)) {
				t.Fatal("steps", g, k, x, y)
			}
			changes, kempe = changes+len(x.Steps), kempe+len(y.Steps)
		}
	}
	if changes < 1000 || kempe < changes+1000 {
		t.Error("too few of a sort", changes, kempe)
	}
}

// TestNumbersOfSteps compares numbers that are known.
func TestNumbersOfSteps(t *testing.T) {
	for _, c := range []struct {
		g              impl.Graph
		k              int
		changes, kempe int
	}{
		{impl.Graph{}, 1, 0, 0}, {impl.Graph{}, 5, 0, 0}, {impl.Graph{Size: 1}, 1, 0, 0}, {impl.Graph{Size: 1}, 5, 10, 10},
		{impl.Graph{Size: 8}, 1, 0, 0}, {impl.Graph{Size: 8}, 2, 1024, 1024}, {impl.Graph{Size: 3}, 5, 750, 750},
		{complete(2), 2, 0, 1}, {complete(2), 3, 6, 9}, {complete(3), 2, 0, 0}, {complete(3), 3, 0, 9},
		// Of 5 colours, two that are both used are exchanged, or one that is used for one that is not.
		{complete(3), 5, 180, 270}, {complete(5), 5, 0, 600}, {complete(8), 5, 0, 0},
		{cycleOf(4), 2, 0, 1}, {rowOf(8), 2, 0, 1}, {parted(), 2, 4, 12},
		{looseTriangle(), 5, 5*180 + 60*10, 5*270 + 60*10},
	} {
		x, one := impl.ColourSpace(c.g, c.k)
		y, two := impl.KempeSpace(c.g, c.k)
		if !one || !two || len(x.Steps) != c.changes || len(y.Steps) != c.kempe {
			t.Error("steps", c, len(x.Steps), len(y.Steps), one, two)
		}
	}
}

func TestFixedNodes(t *testing.T) {
	fixed, still, loose := 0, 0, 0
	for _, g := range colourGraphs() {
		for _, k := range allColours {
			if !hasFew(g, k) {
				continue
			}
			x := colourSpace(g, k)
			least := leastReached(x)
			for _, colours := range spread(x.States, 12) {
				place := indexOf(x.States, colours)
				want := firstNumbers(g.Size)
				for other, at := range least {
					if at == least[place] {
						want = slices.DeleteFunc(want, func(node int) bool { return x.States[other][node] != colours[node] })
					}
				}
				nodes, ok := impl.FixedNodes(g, k, colours)
				if !ok || !slices.Equal(nodes, want) {
					t.Fatal("fixed", g, k, colours, nodes, ok, want)
				}
				unmoved, _ := impl.StillNodes(g, k, colours)
				fixed, still, loose = fixed+len(want), still+len(unmoved)-len(want), loose+g.Size-len(unmoved)
			}
		}
	}
	if fixed < 1000 || still < 100 || loose < 1000 {
		t.Error("too few of a sort", fixed, still, loose)
	}
}

func TestStillAndFixedNodesOfExamples(t *testing.T) {
	for _, c := range []struct {
		g                     impl.Graph
		k                     int
		colours, still, fixed []int
	}{
		{impl.Graph{}, 3, nil, nil, nil},
		{impl.Graph{Size: 3}, 1, []int{0, 0, 0}, []int{0, 1, 2}, []int{0, 1, 2}}, {impl.Graph{Size: 3}, 2, []int{0, 1, 0}, nil, nil},
		{rowOf(3), 2, []int{0, 1, 0}, []int{0, 1, 2}, []int{0, 1, 2}}, {rowOf(3), 3, []int{0, 1, 0}, nil, nil},
		// The node in the middle gets loose as soon as another one changes.
		{rowOf(3), 3, []int{0, 1, 2}, []int{1}, nil},
		{parted(), 2, []int{0, 1, 1, 0, 1}, []int{0, 1, 2, 3}, []int{0, 1, 2, 3}},
		{looseTriangle(), 3, []int{2, 0, 1, 0}, []int{0, 1, 2}, []int{0, 1, 2}}, {looseTriangle(), 4, []int{2, 0, 1, 0}, nil, nil},
		{cycleOf(6), 3, []int{0, 1, 2, 0, 1, 2}, setOf(63), setOf(63)}, {cycleOf(6), 3, []int{0, 1, 2, 0, 2, 1}, []int{1, 2, 4, 5}, nil},
		{cycleOf(4), 3, []int{0, 1, 0, 2}, []int{0, 2}, nil}, {cycleOf(5), 3, []int{0, 1, 0, 1, 2}, []int{0, 3, 4}, nil},
		{complete(5), 5, []int{4, 3, 2, 1, 0}, setOf(31), setOf(31)},
		{twoTriangles(), 3, []int{0, 1, 2, 0, 1, 2}, setOf(31), setOf(31)},
	} {
		still, one := impl.StillNodes(c.g, c.k, c.colours)
		fixed, two := impl.FixedNodes(c.g, c.k, c.colours)
		if !one || !two || !slices.Equal(still, c.still) || !slices.Equal(fixed, c.fixed) {
			t.Error("still and fixed", c, still, fixed)
		}
	}
}

// isSmall tells Graphs for which all shortest walks can be looked at.
func isSmall(g impl.Graph, k int) bool {
	return g.Size <= 3 || len(colouringsOf(g, k)) <= 40
}

func TestWalksOfColourings(t *testing.T) {
	random := rand.New(rand.NewSource(18))
	for _, g := range append(smallGraphs(), chosenGraphs()...) {
		for _, k := range allColours {
			if !hasFew(g, k) || !isSmall(g, k) {
				continue
			}
			checkWalks(t, colourSpace(g, k), random, func(a []int, b []int) ([][]int, bool) { return impl.RecolourWalk(g, k, a, b) })
			checkWalks(t, kempeSpace(g, k), random, func(a []int, b []int) ([][]int, bool) { return impl.KempeWalk(g, k, a, b) })
		}
	}
}

// checkFirstWays checks walks of greater spaces, each step of which is the first one of those
// that lead nearer to the end.
func checkFirstWays(t *testing.T, x impl.Space, random *rand.Rand, walkOf func(a []int, b []int) ([][]int, bool)) {
	t.Helper()
	table := distanceTable(x)
	for range 12 {
		i, j := random.Intn(len(x.States)), random.Intn(len(x.States))
		walk, ok := walkOf(x.States[i], x.States[j])
		if ok != (table[i][j] >= 0) || !ok && len(walk) > 0 || ok && !isFirstWay(x, table, i, j, walk) {
			t.Fatal("walk", x.States[i], x.States[j], walk, ok)
		}
	}
}

func TestWalksOfMoreColourings(t *testing.T) {
	random := rand.New(rand.NewSource(19))
	for _, g := range []impl.Graph{{Size: 7}, {Size: 8}, rowOf(4), rowOf(6), starOf(5), cycleOf(5), cycleOf(6), parted(), prism(), twoTriangles(), looseTriangle(), complete(4), complete(5), twoSides(3)} {
		for _, k := range allColours {
			if n := len(colouringsOf(g, k)); n == 0 || n > impl.MaxStates || n > 130 && g.Size > 6 {
				continue
			}
			checkFirstWays(t, colourSpace(g, k), random, func(a []int, b []int) ([][]int, bool) { return impl.RecolourWalk(g, k, a, b) })
			checkFirstWays(t, kempeSpace(g, k), random, func(a []int, b []int) ([][]int, bool) { return impl.KempeWalk(g, k, a, b) })
		}
	}
}

func TestWalksOfExamples(t *testing.T) {
	type lists = [][]int
	for _, c := range []struct {
		g             impl.Graph
		k             int
		a, b          []int
		change, kempe lists
	}{
		{impl.Graph{}, 1, nil, nil, lists{{}}, lists{{}}},
		{impl.Graph{Size: 2}, 1, []int{0, 0}, []int{0, 0}, lists{{0, 0}}, lists{{0, 0}}},
		{impl.Graph{Size: 2}, 2, []int{0, 0}, []int{1, 1}, lists{{0, 0}, {0, 1}, {1, 1}}, lists{{0, 0}, {0, 1}, {1, 1}}},
		{impl.Graph{Size: 2}, 2, []int{1, 1}, []int{0, 0}, lists{{1, 1}, {0, 1}, {0, 0}}, lists{{1, 1}, {0, 1}, {0, 0}}},
		{impl.Graph{Size: 3}, 2, []int{0, 1, 0}, []int{1, 0, 1}, lists{{0, 1, 0}, {0, 0, 0}, {0, 0, 1}, {1, 0, 1}}, lists{{0, 1, 0}, {0, 0, 0}, {0, 0, 1}, {1, 0, 1}}},
		{rowOf(3), 2, []int{0, 1, 0}, []int{1, 0, 1}, nil, lists{{0, 1, 0}, {1, 0, 1}}},
		{rowOf(3), 2, []int{0, 1, 0}, []int{0, 1, 0}, lists{{0, 1, 0}}, lists{{0, 1, 0}}},
		{rowOf(3), 3, []int{0, 1, 0}, []int{1, 0, 1}, lists{{0, 1, 0}, {0, 2, 0}, {0, 2, 1}, {1, 2, 1}, {1, 0, 1}}, lists{{0, 1, 0}, {1, 0, 1}}},
		{rowOf(3), 3, []int{0, 1, 2}, []int{2, 1, 0}, lists{{0, 1, 2}, {0, 1, 0}, {2, 1, 0}}, lists{{0, 1, 2}, {0, 1, 0}, {2, 1, 0}}},
		{complete(2), 3, []int{0, 1}, []int{1, 0}, lists{{0, 1}, {0, 2}, {1, 2}, {1, 0}}, lists{{0, 1}, {1, 0}}},
		{complete(3), 3, []int{0, 1, 2}, []int{1, 2, 0}, nil, lists{{0, 1, 2}, {0, 2, 1}, {1, 2, 0}}},
		{complete(3), 4, []int{0, 1, 2}, []int{1, 0, 2}, lists{{0, 1, 2}, {0, 3, 2}, {1, 3, 2}, {1, 0, 2}}, lists{{0, 1, 2}, {1, 0, 2}}},
		{cycleOf(5), 3, []int{0, 1, 0, 1, 2}, []int{0, 2, 1, 0, 2}, nil, lists{{0, 1, 0, 1, 2}, {0, 2, 0, 1, 2}, {0, 2, 1, 0, 2}}},
		{complete(5), 5, []int{0, 1, 2, 3, 4}, []int{0, 1, 2, 4, 3}, nil, lists{{0, 1, 2, 3, 4}, {0, 1, 2, 4, 3}}},
	} {
		change, one := impl.RecolourWalk(c.g, c.k, c.a, c.b)
		kempe, two := impl.KempeWalk(c.g, c.k, c.a, c.b)
		if one != (c.change != nil) || !sameLists(change, c.change) || two != (c.kempe != nil) || !sameLists(kempe, c.kempe) {
			t.Error("walks", c, change, one, kempe, two)
		}
	}
}

// TestNoKempeWalk: with as many colours as the degeneracy, there may be none. Here both triangles
// have all colours, and node 0 has that of node 4 or that of node 5.
func TestNoKempeWalk(t *testing.T) {
	sorts := map[int][][]int{}
	for _, colours := range colouringsOf(prism(), 3) {
		at := slices.Index(colours[3:], colours[0])
		sorts[at] = append(sorts[at], colours)
	}
	if len(sorts[1]) != 6 || len(sorts[2]) != 6 || degeneracyOf(prism()) != 3 {
		t.Fatal("colourings", sorts)
	}
	for _, a := range sorts[1] {
		for _, b := range sorts[2] {
			failAll(t, append(walkCalls(prism(), 3, a, b)[:2], walkCalls(prism(), 3, b, a)[:2]...), "no walk")
		}
		for _, b := range sorts[1] {
			if walk, ok := impl.KempeWalk(prism(), 3, a, b); !ok || len(walk) > 4 {
				t.Error("walk", a, b, walk, ok)
			}
		}
	}
}

func TestWalksFromAColouringToItself(t *testing.T) {
	for _, g := range append(smallGraphs(), parted(), prism(), complete(5), rowOf(7), impl.Graph{Size: 8}) {
		for _, k := range allColours {
			if !hasFew(g, k) {
				continue
			}
			for _, colours := range spread(colouringsOf(g, k), 8) {
				change, one := impl.RecolourWalk(g, k, colours, slices.Clone(colours))
				kempe, two := impl.KempeWalk(g, k, colours, colours)
				if !one || !two || !sameLists(change, [][]int{colours}) || !sameLists(kempe, [][]int{colours}) {
					t.Fatal("the colouring alone", g, k, colours, change, kempe)
				}
			}
		}
	}
}

func TestMixingColours(t *testing.T) {
	found, many, none := map[int]int{}, 0, 0
	for _, g := range append(colourGraphs(), graphsOf(5)...) {
		want := 0
		k := 1
		for ; k <= impl.MaxColours && want == 0 && hasFew(g, k); k++ {
			if isOnePart(colourSpace(g, k)) {
				want = k
			}
		}
		if mixing, ok := impl.MixingColours(g); ok != (want > 0) || mixing != want {
			t.Fatal("mixing", g, mixing, ok, want)
		}
		switch {
		case want > 0:
			found[want]++
		case k <= impl.MaxColours:
			many++
		default:
			none++
		}
	}
	if found[1] < 5 || found[3] < 100 || found[4] < 10 || found[5] < 5 || found[2] > 0 || many < 100 || none < 1 {
		t.Error("too few of a sort", found, many, none)
	}
}

func TestMixingColoursOfExamples(t *testing.T) {
	for _, c := range []struct {
		g    impl.Graph
		want int
	}{
		{impl.Graph{}, 1}, {impl.Graph{Size: 1}, 1}, {impl.Graph{Size: 8}, 1},
		{complete(2), 3}, {complete(3), 4}, {complete(4), 5}, {rowOf(3), 3}, {rowOf(7), 3}, {cycleOf(4), 3}, {cycleOf(5), 4},
		{looseTriangle(), 4}, {parted(), 3}, {prism(), 4}, {twoSides(4), 3},
		// No number does for these: there are no colourings, or no walks between them.
		{complete(5), 0}, {complete(6), 0}, {complete(8), 0},
		// Before a number is found, there are more than MaxStates colourings.
		{rowOf(8), 0}, {cycleOf(6), 0}, {impl.Graph{Size: 8, Edges: [][2]int{{0, 1}}}, 0},
	} {
		if mixing, ok := impl.MixingColours(c.g); mixing != c.want || ok != (c.want > 0) {
			t.Error("mixing", c, mixing, ok)
		}
	}
}

// TestWithTwoColoursMoreThanTheDegeneracy: each colouring can be changed to each other one, and
// with one colour more by Kempe changes. With one colour less, there may be no walk.
func TestWithTwoColoursMoreThanTheDegeneracy(t *testing.T) {
	changes, kempe, apart, kempeApart := 0, 0, 0, 0
	for _, g := range append(colourGraphs(), graphsOf(5)...) {
		_, degeneracy, _ := impl.PeelingOf(g)
		for _, k := range allColours {
			if !hasFew(g, k) {
				continue
			}
			x, one := impl.ColourSpace(g, k)
			y, two := impl.KempeSpace(g, k)
			if !one || !two || degeneracy != degeneracyOf(g) {
				t.Fatal("spaces", g, k, degeneracy)
			}
			if k >= degeneracy+1 && len(x.States) == 0 {
				t.Fatal("no colourings", g, k)
			}
			switch {
			case k >= degeneracy+2:
				changes++
				if !isOnePart(x) {
					t.Fatal("no walk of changes", g, k)
				}
			case len(x.States) > 0 && !isOnePart(x):
				apart++
			}
			switch {
			case k >= degeneracy+1:
				kempe++
				if !isOnePart(y) {
					t.Fatal("no walk of Kempe changes", g, k)
				}
			case len(y.States) > 0 && !isOnePart(y):
				kempeApart++
			}
		}
	}
	if changes < 500 || kempe < 1000 || apart < 500 || kempeApart < 1 {
		t.Error("too few of a sort", changes, kempe, apart, kempeApart)
	}
}

// isWalkOf reports whether a walk leads from a to b, each colouring of it to the next one as told.
func isWalkOf(g impl.Graph, k int, walk [][]int, a []int, b []int, told func(a []int, b []int) bool) bool {
	for at, colours := range walk {
		if is, _ := impl.IsColouring(g, k, colours); !is || at > 0 && !told(walk[at-1], colours) {
			return false
		}
	}
	return len(walk) > 0 && slices.Equal(walk[0], a) && slices.Equal(walk[len(walk)-1], b)
}

func TestWalksWithTwoColoursMoreThanTheDegeneracy(t *testing.T) {
	random := rand.New(rand.NewSource(20))
	walks, kempes := 0, 0
	for _, g := range colourGraphs() {
		for _, k := range allColours {
			all := colouringsOf(g, k)
			if len(all) > impl.MaxStates || k <= degeneracyOf(g) {
				continue
			}
			for _, pair := range somePairs(len(all), random)[:min(10, len(all))] {
				a, b := all[pair[0]], all[pair[1]]
				if k > degeneracyOf(g)+1 {
					walk, ok := impl.RecolourWalk(g, k, a, b)
					if !ok || !isWalkOf(g, k, walk, a, b, isChange) {
						t.Fatal("walk of changes", g, k, a, b, walk, ok)
					}
					walks++
				}
				walk, ok := impl.KempeWalk(g, k, a, b)
				if !ok || !isWalkOf(g, k, walk, a, b, func(a []int, b []int) bool { return isKempeChange(g, a, b) }) {
					t.Fatal("walk of Kempe changes", g, k, a, b, walk, ok)
				}
				kempes++
			}
		}
	}
	if walks < 500 || kempes < 1000 {
		t.Error("too few of a sort", walks, kempes)
	}
}

// TestASingleColour: only a Graph without edges has a colouring, and nothing changes in it.
func TestASingleColour(t *testing.T) {
	for _, g := range append(colourGraphs(), graphsOf(5)[:600]...) {
		a := make([]int, g.Size)
		x, one := impl.ColourSpace(g, 1)
		y, two := impl.KempeSpace(g, 1)
		all, three := impl.Colourings(g, 1)
		want := [][]int{a}
		if len(g.Edges) > 0 {
			want = nil
		}
		if !one || !two || !three || !sameLists(all, want) || !sameSpace(x, impl.Space{States: want}) || !sameSpace(y, x) {
			t.Fatal("one colouring", g, all, x, y)
		}
		if is, ok := impl.IsColouring(g, 1, a); is != (want != nil) || !ok {
			t.Fatal("colouring", g, is, ok)
		}
		if want == nil {
			failAll(t, colouringCalls(g, 1, a, 0, 0), "two neighbors")
			continue
		}
		still, one := impl.StillNodes(g, 1, a)
		fixed, two := impl.FixedNodes(g, 1, a)
		named, three := impl.RenameColours(g, 1, a, []int{0})
		if !one || !two || !three || !slices.Equal(still, firstNumbers(g.Size)) || !slices.Equal(fixed, still) || !slices.Equal(named, a) {
			t.Fatal("all nodes", g, still, fixed, named)
		}
		for x := range g.Size {
			chain, ok := impl.ChainOf(g, 1, a, x, 0)
			if !ok || !slices.Equal(chain, []int{x}) {
				t.Fatal("chain", g, x, chain, ok)
			}
			failAll(t, chainCalls(g, 1, a, x, 0)[1:], "the colour of the node")
		}
	}
}
