package tests

import (
	"math"
	"math/rand"
	"slices"
	"testing"

	"loop.example/g01128/impl"
)

var allColours = []int{1, 2, 3, 4, 5}

func TestLimitsOfColours(t *testing.T) {
	if impl.MaxColours != 5 || impl.MaxTrip != 20 {
		t.Error("limits", impl.MaxColours, impl.MaxTrip)
	}
}

// isProper reports whether no edge has the same colour at both nodes.
func isProper(g impl.Graph, colours []int) bool {
	return !slices.ContainsFunc(g.Edges, func(edge [2]int) bool { return colours[edge[0]] == colours[edge[1]] })
}

// colouringsOf counts through all lists of colours, in lexicographic order, until it has one
// colouring more than MaxStates.
func colouringsOf(g impl.Graph, k int) [][]int {
	found := [][]int{}
	for colours := make([]int, g.Size); ; {
		if isProper(g, colours) {
			found = append(found, slices.Clone(colours))
		}
		node := g.Size - 1
		for node >= 0 && colours[node] == k-1 {
			colours[node] = 0
			node--
		}
		if node < 0 || len(found) > impl.MaxStates {
			return found
		}
		colours[node]++
	}
}

// spread returns at most most of a list, from its beginning to its end.
func spread(list [][]int, most int) [][]int {
	if len(list) <= most {
		return list
	}
	some := [][]int{}
	for k := range most {
		some = append(some, list[k*(len(list)-1)/(most-1)])
	}
	return some
}

// prism has two triangles, and an edge between each node of one and one of the other.
func prism() impl.Graph {
	return impl.Graph{Size: 6, Edges: [][2]int{{0, 1}, {0, 2}, {0, 3}, {1, 2}, {1, 4}, {2, 5}, {3, 4}, {3, 5}, {4, 5}}}
}

// looseTriangle has a node alone. With 5 colours it has just MaxStates colourings.
func looseTriangle() impl.Graph {
	return impl.Graph{Size: 4, Edges: [][2]int{{0, 1}, {0, 2}, {1, 2}}}
}

// chosenGraphs returns Graphs of more than 4 nodes, and one of 4.
func chosenGraphs() []impl.Graph {
	return append(greatGraphs(), complete(5), complete(6), rowOf(5), rowOf(6), rowOf(7), starOf(5), starOf(7), twoSides(3), prism(), looseTriangle())
}

func colourGraphs() []impl.Graph { return append(graphsOf(4), chosenGraphs()...) }

func TestIsColouring(t *testing.T) {
	for _, g := range graphsOf(3)[:12] {
		for _, k := range allColours {
			counts := map[bool]int{}
			everyList(4, -1, k, func(list []int) {
				want := len(list) == g.Size && !slices.ContainsFunc(list, func(c int) bool { return c < 0 || c >= k }) && isProper(g, list)
				if is, ok := impl.IsColouring(g, k, list); !ok || is != want {
					t.Fatal("colouring", g, k, list, is, ok)
				}
				counts[want]++
			})
			if counts[true] != len(colouringsOf(g, k)) || counts[false] == 0 {
				t.Error("too few of a sort", g, k, counts)
			}
		}
	}
}

// notColourings returns lists that are near to a colouring with k colours, but none.
func notColourings(g impl.Graph, k int, colours []int) [][]int {
	lists := [][]int{append(slices.Clone(colours), 0), append([]int{k - 1}, colours...), append(slices.Clone(colours), -1), make([]int, impl.MaxNodes+1), make([]int, 1000)}
	if g.Size > 0 {
		lists = append(lists, colours[1:], colours[:g.Size-1], nil)
	}
	for node := range colours {
		for _, far := range []int{-1, k, k + 1, -k, impl.MaxColours, 1 << 32, math.MinInt, math.MaxInt} {
			spoilt := slices.Clone(colours)
			spoilt[node] = far
			lists = append(lists, spoilt)
		}
	}
	for _, edge := range g.Edges {
		spoilt := slices.Clone(colours)
		spoilt[edge[1]] = spoilt[edge[0]]
		lists = append(lists, spoilt)
	}
	return lists
}

func TestIsColouringOfMoreNodes(t *testing.T) {
	for _, g := range colourGraphs() {
		for _, k := range allColours {
			for _, colours := range spread(colouringsOf(g, k), 6) {
				if is, ok := impl.IsColouring(g, k, colours); !is || !ok {
					t.Fatal("colouring", g, k, colours, is, ok)
				}
				for _, list := range notColourings(g, k, colours) {
					if is, ok := impl.IsColouring(g, k, list); is || !ok {
						t.Fatal("no colouring", g, k, list, is, ok)
					}
				}
			}
		}
	}
}

func TestColourings(t *testing.T) {
	few, none, many := 0, 0, 0
	for _, g := range append(colourGraphs(), graphsOf(5)...) {
		for _, k := range allColours {
			want := colouringsOf(g, k)
			if len(want) > impl.MaxStates {
				many++
				want = nil
			} else if len(want) == 0 {
				none++
			} else {
				few++
			}
			all, ok := impl.Colourings(g, k)
			if ok != (want != nil) || !sameLists(all, want) {
				t.Fatal("colourings", g, k, all, ok)
			}
		}
	}
	if few < 1000 || none < 1000 || many < 100 {
		t.Error("too few of a sort", few, none, many)
	}
}

// coloured has a Graph and the number of its colourings with 1 to 5 colours.
type coloured struct {
	g       impl.Graph
	numbers [5]int
}

// knownColourings has numbers that are known from the polynomials of the Graphs.
func knownColourings() []coloured {
	return []coloured{
		{impl.Graph{}, [5]int{1, 1, 1, 1, 1}},
		{impl.Graph{Size: 1}, [5]int{1, 2, 3, 4, 5}},
		{impl.Graph{Size: 3}, [5]int{1, 8, 27, 64, 125}},
		{impl.Graph{Size: 8}, [5]int{1, 256, 6561, 65536, 390625}},
		{complete(2), [5]int{0, 2, 6, 12, 20}},
		{complete(3), [5]int{0, 0, 6, 24, 60}},
		{complete(5), [5]int{0, 0, 0, 0, 120}},
		{complete(6), [5]int{}}, {complete(8), [5]int{}},
		{rowOf(3), [5]int{0, 2, 12, 36, 80}},
		{rowOf(8), [5]int{0, 2, 384, 8748, 81920}},
		{cycleOf(4), [5]int{0, 2, 18, 84, 260}},
		{cycleOf(5), [5]int{0, 0, 30, 240, 1020}},
		{cycleOf(8), [5]int{0, 2, 258, 6564, 65540}},
		{parted(), [5]int{0, 8, 108, 576, 2000}},
		{prism(), [5]int{0, 0, 12, 264, 1560}},
		{looseTriangle(), [5]int{0, 0, 18, 96, impl.MaxStates}},
		{rowOf(4), [5]int{0, 2, 24, 108, 320}},
		// Of these two, there are a few more than MaxStates with one number of colours.
		{impl.Graph{Size: 8, Edges: [][2]int{{0, 2}, {0, 3}, {1, 2}, {1, 7}, {2, 4}, {3, 4}, {3, 6}, {6, 7}}}, [5]int{0, 4, 306, 6864, 66700}},
		{impl.Graph{Size: 6, Edges: [][2]int{{0, 2}, {0, 3}, {0, 4}, {0, 5}, {1, 2}, {1, 3}, {1, 4}, {1, 5}, {2, 3}}}, [5]int{0, 0, 24, 312, 2040}},
	}
}

func TestNumbersOfColourings(t *testing.T) {
	for _, c := range knownColourings() {
		for at, number := range c.numbers {
			all, one := impl.Colourings(c.g, at+1)
			changes, two := impl.ColourSpace(c.g, at+1)
			kempe, three := impl.KempeSpace(c.g, at+1)
			if number > impl.MaxStates {
				failAll(t, paletteCalls(c.g, at+1), "too many")
				continue
			}
			if !one || !two || !three || len(all) != number || len(changes.States) != number || len(kempe.States) != number {
				t.Error("number", c, at+1, len(all), len(changes.States), len(kempe.States))
			}
		}
	}
}

// chainOf grows the chain over edges, until there are none on which it can grow.
func chainOf(g impl.Graph, colours []int, x int, c int) []int {
	digits := 1 << x
	isOf := func(node int) bool { return colours[node] == c || colours[node] == colours[x] }
	for range g.Size {
		for _, edge := range g.Edges {
			if isOf(edge[0]) && isOf(edge[1]) && (digits>>edge[0]|digits>>edge[1])&1 == 1 {
				digits |= 1<<edge[0] | 1<<edge[1]
			}
		}
	}
	return setOf(digits)
}

func kempeChanged(g impl.Graph, colours []int, x int, c int) []int {
	changed := slices.Clone(colours)
	for _, node := range chainOf(g, colours, x, c) {
		changed[node] = colours[x] + c - colours[node]
	}
	return changed
}

func TestChainsAndKempeChanges(t *testing.T) {
	single, whole, between := 0, 0, 0
	for _, g := range colourGraphs() {
		for _, k := range allColours {
			for _, colours := range spread(colouringsOf(g, k), 10) {
				for x := range g.Size {
					for c := range k {
						chain, ok := impl.ChainOf(g, k, colours, x, c)
						if want := chainOf(g, colours, x, c); !ok || !slices.Equal(chain, want) {
							t.Fatal("chain", g, k, colours, x, c, chain, ok, want)
						}
						change := aCall{"KempeChange", impl.KempeChange, []any{g, k, colours, x, c}}
						if c == colours[x] {
							if !slices.Equal(chain, []int{x}) || !change.fails() {
								t.Fatal("the colour of the node", g, k, colours, x, c, chain)
							}
							continue
						}
						changed, fine := impl.KempeChange(g, k, colours, x, c)
						if !fine || !slices.Equal(changed, kempeChanged(g, colours, x, c)) || !isProper(g, changed) {
							t.Fatal("change", g, k, colours, x, c, changed, fine)
						}
						back, _ := impl.KempeChange(g, k, changed, x, colours[x])
						if !slices.Equal(back, colours) {
							t.Fatal("and back", g, k, colours, x, c, back)
						}
						switch len(chain) {
						case 1:
							single++
						case g.Size:
							whole++
						default:
							between++
						}
					}
				}
			}
		}
	}
	if single < 1000 || whole < 1000 || between < 1000 {
		t.Error("too few of a sort", single, whole, between)
	}
}

func TestChainsOfExamples(t *testing.T) {
	for _, c := range []struct {
		g       impl.Graph
		k       int
		colours []int
		x, c    int
		chain   []int
		changed []int
	}{
		{rowOf(8), 2, []int{0, 1, 0, 1, 0, 1, 0, 1}, 3, 0, setOf(255), []int{1, 0, 1, 0, 1, 0, 1, 0}},
		{rowOf(8), 3, []int{0, 1, 0, 2, 0, 1, 0, 1}, 5, 0, []int{4, 5, 6, 7}, []int{0, 1, 0, 2, 1, 0, 1, 0}},
		{rowOf(8), 3, []int{0, 1, 0, 2, 0, 1, 0, 1}, 2, 1, []int{0, 1, 2}, []int{1, 0, 1, 2, 0, 1, 0, 1}},
		{rowOf(8), 3, []int{0, 1, 0, 2, 0, 1, 0, 1}, 3, 1, []int{3}, []int{0, 1, 0, 1, 0, 1, 0, 1}},
		{rowOf(8), 3, []int{0, 1, 0, 2, 0, 1, 0, 1}, 3, 0, []int{2, 3, 4}, []int{0, 1, 2, 0, 2, 1, 0, 1}},
		{rowOf(8), 3, []int{0, 1, 0, 2, 0, 1, 0, 1}, 3, 2, []int{3}, nil},
		{complete(5), 5, []int{4, 2, 0, 1, 3}, 1, 3, []int{1, 4}, []int{4, 3, 0, 1, 2}},
		{impl.Graph{Size: 8}, 5, []int{4, 4, 4, 4, 0, 0, 0, 0}, 6, 4, []int{6}, []int{4, 4, 4, 4, 0, 0, 4, 0}},
		{parted(), 2, []int{0, 1, 1, 0, 0}, 3, 1, []int{2, 3}, []int{0, 1, 0, 1, 0}},
		{parted(), 2, []int{0, 1, 1, 0, 0}, 4, 1, []int{4}, []int{0, 1, 1, 0, 1}},
		{parted(), 2, []int{0, 1, 1, 0, 0}, 4, 0, []int{4}, nil},
		{impl.Graph{Size: 1}, 1, []int{0}, 0, 0, []int{0}, nil},
		{impl.Graph{Size: 1}, 2, []int{1}, 0, 0, []int{0}, []int{0}},
		// Over the greater nodes to lesser ones, which come first.
		{impl.Graph{Size: 4, Edges: [][2]int{{0, 3}, {1, 2}, {1, 3}}}, 2, []int{0, 0, 1, 1}, 2, 0, []int{0, 1, 2, 3}, []int{1, 1, 0, 0}},
	} {
		chain, ok := impl.ChainOf(c.g, c.k, c.colours, c.x, c.c)
		changed, is := impl.KempeChange(c.g, c.k, c.colours, c.x, c.c)
		if !ok || !slices.Equal(chain, c.chain) || is != (c.changed != nil) || !slices.Equal(changed, c.changed) {
			t.Error("chain", c, chain, ok, changed, is)
		}
	}
}

func withColour(colours []int, node int, colour int) []int {
	changed := slices.Clone(colours)
	changed[node] = colour
	return changed
}

func TestStillNodes(t *testing.T) {
	still, loose := 0, 0
	for _, g := range colourGraphs() {
		for _, k := range allColours {
			for _, colours := range spread(colouringsOf(g, k), 30) {
				want := []int{}
				for node := range g.Size {
					proper := 0
					for c := range k {
						if isProper(g, withColour(colours, node, c)) {
							proper++
						}
					}
					if proper == 1 {
						want = append(want, node)
					}
				}
				if nodes, ok := impl.StillNodes(g, k, colours); !ok || !slices.Equal(nodes, want) {
					t.Fatal("still", g, k, colours, nodes, ok, want)
				}
				still, loose = still+len(want), loose+g.Size-len(want)
			}
		}
	}
	if still < 1000 || loose < 1000 {
		t.Error("too few of a sort", still, loose)
	}
}

// degeneracyOf looks at all sets of nodes, for the greatest number of neighbors that each node
// of a set has in it.
func degeneracyOf(g impl.Graph) int {
	greatest := -1
	for digits := 1; digits < 1<<g.Size; digits++ {
		least := g.Size
		for _, node := range setOf(digits) {
			least = min(least, len(neighborsAmong(g, node, setOf(digits))))
		}
		greatest = max(greatest, least)
	}
	return greatest
}

func neighborsAmong(g impl.Graph, node int, nodes []int) []int {
	return slices.DeleteFunc(slices.Clone(nodes), func(other int) bool { return !hasEdge(g, node, other) })
}

func TestPeelingOf(t *testing.T) {
	degeneracies := map[int]int{}
	for _, g := range append(colourGraphs(), graphsOf(5)...) {
		order, degeneracy, ok := impl.PeelingOf(g)
		if !ok || len(order) != g.Size || degeneracy != degeneracyOf(g) {
			t.Fatal("peeling", g, order, degeneracy, ok)
		}
		left := setOf(1<<g.Size - 1)
		for _, node := range order {
			at := slices.Index(left, node)
			for k, other := range left {
				more := len(neighborsAmong(g, other, left)) - len(neighborsAmong(g, node, left))
				if at < 0 || more < 0 || more == 0 && k < at {
					t.Fatal("another node first", g, order, node, other)
				}
			}
			left = slices.Delete(left, at, at+1)
		}
		degeneracies[degeneracy]++
	}
	for degeneracy := -1; degeneracy < impl.MaxNodes; degeneracy++ {
		if degeneracies[degeneracy] == 0 {
			t.Error("no Graph", degeneracy)
		}
	}
}

func TestPeelingOfExamples(t *testing.T) {
	for _, c := range []struct {
		g          impl.Graph
		order      []int
		degeneracy int
	}{
		{impl.Graph{}, nil, -1}, {impl.Graph{Size: 1}, []int{0}, 0}, {impl.Graph{Size: 8}, setOf(255), 0},
		{complete(8), setOf(255), 7}, {rowOf(4), []int{0, 1, 2, 3}, 1}, {cycleOf(5), []int{0, 1, 2, 3, 4}, 2},
		// The node in the middle comes as soon as it has no more neighbors than another one.
		{starOf(4), []int{1, 2, 0, 3}, 1}, {parted(), []int{4, 0, 1, 2, 3}, 1},
		{looseTriangle(), []int{3, 0, 1, 2}, 2}, {twoTriangles(), []int{5, 0, 1, 2, 3, 4}, 2},
		{impl.Graph{Size: 5, Edges: [][2]int{{0, 1}, {0, 2}, {0, 3}, {1, 2}, {1, 3}, {2, 3}, {3, 4}}}, []int{4, 0, 1, 2, 3}, 3},
		{impl.Graph{Size: 4, Edges: [][2]int{{0, 2}, {0, 3}, {1, 3}}}, []int{1, 2, 0, 3}, 1},
	} {
		order, degeneracy, ok := impl.PeelingOf(c.g)
		if !ok || !slices.Equal(order, c.order) || degeneracy != c.degeneracy {
			t.Error("peeling", c, order, degeneracy, ok)
		}
	}
}

// ordersOf returns all orders of 0..n-1.
func ordersOf(n int) [][]int {
	if n == 0 {
		return [][]int{{}}
	}
	orders := [][]int{}
	for _, order := range ordersOf(n - 1) {
		for place := range n {
			orders = append(orders, slices.Insert(slices.Clone(order), place, n-1))
		}
	}
	return orders
}

// checkGreedy checks, for each node, that its colour is free, and that no less colour is.
func checkGreedy(t *testing.T, g impl.Graph, order []int) {
	t.Helper()
	colours, ok := impl.GreedyColours(g, order)
	if !ok || len(colours) != g.Size {
		t.Fatal("greedy", g, order, colours, ok)
	}
	for k, node := range order {
		taken := map[int]bool{}
		for _, other := range neighborsAmong(g, node, order[:k]) {
			taken[colours[other]] = true
		}
		least := 0
		for taken[least] {
			least++
		}
		if colours[node] != least {
			t.Fatal("not the least colour", g, order, colours, node)
		}
	}
}

func TestGreedyColours(t *testing.T) {
	random := rand.New(rand.NewSource(15))
	for _, g := range append(colourGraphs(), graphsOf(5)...) {
		if g.Size <= 5 {
			for _, order := range ordersOf(g.Size) {
				checkGreedy(t, g, order)
			}
			continue
		}
		for range 20 {
			checkGreedy(t, g, random.Perm(g.Size))
		}
	}
}

func TestGreedyColoursOfExamples(t *testing.T) {
	for _, c := range []struct {
		g           impl.Graph
		order, want []int
	}{
		{impl.Graph{}, nil, nil}, {impl.Graph{Size: 1}, []int{0}, []int{0}}, {impl.Graph{Size: 3}, []int{2, 0, 1}, []int{0, 0, 0}},
		{rowOf(4), []int{0, 3, 1, 2}, []int{0, 1, 2, 0}}, {rowOf(4), []int{0, 1, 2, 3}, []int{0, 1, 0, 1}}, {rowOf(4), []int{3, 2, 1, 0}, []int{1, 0, 1, 0}},
		{starOf(4), []int{3, 2, 1, 0}, []int{1, 0, 0, 0}},
		// There are more colours than MaxColours.
		{complete(8), setOf(255), setOf(255)}, {complete(8), []int{7, 6, 5, 4, 3, 2, 1, 0}, []int{7, 6, 5, 4, 3, 2, 1, 0}},
		{complete(4), []int{2, 0, 3, 1}, []int{1, 3, 0, 2}},
	} {
		if colours, ok := impl.GreedyColours(c.g, c.order); !ok || !slices.Equal(colours, c.want) {
			t.Error("greedy", c, colours, ok)
		}
	}
}

// TestGreedyColoursFromTheEndOfThePeeling: there are as many colours as the degeneracy and 1.
func TestGreedyColoursFromTheEndOfThePeeling(t *testing.T) {
	fewer, more := 0, 0
	for _, g := range append(colourGraphs(), graphsOf(5)...) {
		order, degeneracy, _ := impl.PeelingOf(g)
		slices.Reverse(order)
		colours, ok := impl.GreedyColours(g, order)
		number := 1 + slices.Max(append(colours, -1))
		if !ok || degeneracy != degeneracyOf(g) || number > degeneracy+1 || !isProper(g, colours) {
			t.Fatal("greedy", g, order, degeneracy, colours)
		}
		if number <= degeneracy {
			fewer++
		}
		// In another order there may be more, so that it tells something that this one has not.
		for _, other := range ordersOf(min(g.Size, 5)) {
			if colours, ok := impl.GreedyColours(g, other); ok && slices.Max(append(colours, -1)) > degeneracy {
				more++
			}
		}
	}
	if fewer < 10 || more < 100 {
		t.Error("too few of a sort", fewer, more)
	}
}

func TestRenameColours(t *testing.T) {
	for _, g := range append(smallGraphs(), parted(), prism(), complete(5), rowOf(8), impl.Graph{Size: 8}) {
		for _, k := range allColours {
			for _, colours := range spread(colouringsOf(g, k), 12) {
				for _, to := range ordersOf(k) {
					renamed, ok := impl.RenameColours(g, k, colours, to)
					if !ok || len(renamed) != g.Size || !isProper(g, renamed) {
						t.Fatal("renamed", g, k, colours, to, renamed, ok)
					}
					for node, colour := range colours {
						if renamed[node] != to[colour] {
							t.Fatal("another colour", g, k, colours, to, renamed)
						}
					}
				}
			}
		}
	}
}
