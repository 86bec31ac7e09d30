package tests

import (
	"math"
	"math/rand"
	"slices"
	"testing"

	"loop.example/g01128/impl"
)

// edgesAt returns the edges with some numbers.
func edgesAt(g impl.Graph, numbers []int) [][2]int {
	edges := [][2]int{}
	for _, number := range numbers {
		edges = append(edges, g.Edges[number])
	}
	return edges
}

// sideOf returns the nodes with which edges connect a node, as digits.
func sideOf(edges [][2]int, node int) int {
	side := 1 << node
	for before := 0; before != side; {
		before = side
		for _, edge := range edges {
			if both := 1<<edge[0] | 1<<edge[1]; side&both != 0 {
				side |= both
			}
		}
	}
	return side
}

func isTreeOf(g impl.Graph, numbers []int) bool {
	return len(numbers) == g.Size-1 && sideOf(edgesAt(g, numbers), 0) == 1<<g.Size-1
}

// listsOfNumbers returns all strictly ascending lists of k numbers in from..n-1, in lexicographic
// order.
func listsOfNumbers(from int, n int, k int) [][]int {
	if k == 0 {
		return [][]int{{}}
	}
	lists := [][]int{}
	for first := from; first <= n-k; first++ {
		for _, rest := range listsOfNumbers(first+1, n, k-1) {
			lists = append(lists, append([]int{first}, rest...))
		}
	}
	return lists
}

// treesOf looks at all lists with the right number of edges.
func treesOf(g impl.Graph) [][]int {
	if g.Size == 0 {
		return nil
	}
	isNone := func(numbers []int) bool { return !isTreeOf(g, numbers) }
	return slices.DeleteFunc(listsOfNumbers(0, len(g.Edges), g.Size-1), isNone)
}

// numbersBelow returns 0..n-1.
func numbersBelow(n int) []int {
	numbers := []int{}
	for number := range n {
		numbers = append(numbers, number)
	}
	return numbers
}

// notIn returns the numbers of a list that are not in another one.
func notIn(list []int, other []int) []int {
	return slices.DeleteFunc(slices.Clone(list), func(number int) bool { return slices.Contains(other, number) })
}

func isExchange(a []int, b []int) bool { return len(notIn(a, b)) == 1 && len(notIn(b, a)) == 1 }

func exchangesOf(trees [][]int) impl.Space {
	return impl.Space{States: trees, Steps: stepsWhere(len(trees), func(i int, j int) bool { return isExchange(trees[i], trees[j]) })}
}

// circleOf goes along the edges of the tree from one end of the edge to the other one.
func circleOf(g impl.Graph, tree []int, edge int) []int {
	path := pathsOf(impl.Graph{Size: g.Size, Edges: edgesAt(g, tree)}, g.Edges[edge][0], g.Edges[edge][1])[0]
	circle := []int{edge}
	for k, node := range path[1:] {
		pair := [2]int{min(node, path[k]), max(node, path[k])}
		circle = append(circle, slices.Index(g.Edges, pair))
	}
	slices.Sort(circle)
	return circle
}

func cutOf(g impl.Graph, tree []int, edge int) []int {
	side := sideOf(edgesAt(g, notIn(tree, []int{edge})), g.Edges[edge][0])
	cut := []int{}
	for number, pair := range g.Edges {
		if side>>pair[0]&1 != side>>pair[1]&1 {
			cut = append(cut, number)
		}
	}
	return cut
}

// treeWalkOf goes on as long as there is an edge to put in.
func treeWalkOf(g impl.Graph, a []int, b []int) [][]int {
	walk, tree := [][]int{a}, a
	for len(notIn(b, tree)) > 0 {
		in := notIn(b, tree)[0]
		out := notIn(circleOf(g, tree, in), b)[0]
		tree = append(notIn(tree, []int{out}), in)
		slices.Sort(tree)
		walk = append(walk, tree)
	}
	return walk
}

// signOf counts the pairs that are out of order.
func signOf(order []int) int {
	sign := 1
	for _, pair := range pairsOf(len(order)) {
		if order[pair[0]] > order[pair[1]] {
			sign = -sign
		}
	}
	return sign
}

// determinantOf sums a product for each order of the rows.
func determinantOf(matrix [][]int) int {
	sum := 0
	for _, order := range ordersOf(len(matrix)) {
		product := signOf(order)
		for row, column := range order {
			product *= matrix[row][column]
		}
		sum += product
	}
	return sum
}

func matrixOf(g impl.Graph) [][]int {
	matrix := [][]int{}
	for node := range g.Size - 1 {
		row := make([]int, g.Size-1)
		for other := range g.Size {
			if hasEdge(g, node, other) {
				row[node]++
				if other < g.Size-1 {
					row[other]--
				}
			}
		}
		matrix = append(matrix, row)
	}
	return matrix
}

// joinedAt returns the Graph of both, where the first node of the second one is the last one of
// the first one. Its number of trees is the product of theirs.
func joinedAt(g impl.Graph, h impl.Graph) impl.Graph {
	last := g.Size - 1
	edges := slices.Clone(g.Edges)
	for _, edge := range h.Edges {
		edges = append(edges, [2]int{edge[0] + last, edge[1] + last})
	}
	return impl.Graph{Size: last + h.Size, Edges: edges}
}

// graphWithMaxTrees has just MaxStates trees: 75 of five nodes with all edges but one, times 4.
func graphWithMaxTrees() impl.Graph {
	return joinedAt(withoutEdges(complete(5), [2]int{0, 1}), cycleOf(4))
}

// graphWithOneTreeMore has MaxStates + 1 trees.
func graphWithOneTreeMore() impl.Graph {
	return impl.Graph{Size: 8, Edges: [][2]int{{0, 1}, {0, 6}, {0, 7}, {1, 2}, {1, 3}, {1, 5}, {2, 7}, {3, 4}, {3, 5}, {4, 6}, {4, 7}, {5, 7}}}
}

// treeGraphs include such with one tree, none, and more than MaxStates.
func treeGraphs() []impl.Graph {
	return slices.Concat(graphsOf(4), chosenGraphs(), layeredGraphs(), []impl.Graph{
		graphWithMaxTrees(), graphWithOneTreeMore(), joinedAt(cycleOf(3), cycleOf(6)), joinedAt(complete(4), cycleOf(5)), joinedAt(rowOf(4), complete(5)),
		joinedAt(joinedAt(cycleOf(3), cycleOf(3)), cycleOf(4)), withoutEdges(complete(5), [2]int{3, 4}), withoutEdges(cube(), [2]int{0, 1}, [2]int{6, 7}),
	})
}

// fewTreeGraphs have 1..MaxStates trees.
func fewTreeGraphs() []impl.Graph {
	return slices.DeleteFunc(treeGraphs(), func(g impl.Graph) bool {
		count := countOf(g)
		return count == 0 || count > impl.MaxStates
	})
}

func countOf(g impl.Graph) int {
	if g.Size == 0 {
		return 0
	}
	return determinantOf(matrixOf(g))
}

func TestCountTrees(t *testing.T) {
	for _, g := range append(graphsOf(5), treeGraphs()...) {
		count, ok := impl.CountTrees(g)
		if ok != (g.Size > 0) || count != countOf(g) {
			t.Fatal("determinant", g, count, ok)
		}
		if len(g.Edges) <= 14 && count != len(treesOf(g)) {
			t.Fatal("trees", g, count)
		}
	}
}

func TestKnownNumbersOfTrees(t *testing.T) {
	for n := 1; n <= impl.MaxNodes; n++ {
		// Cayley's number n^(n-2), which is 1 for a single node.
		if count, ok := impl.CountTrees(complete(n)); !ok || count != int(math.Round(math.Pow(float64(n), float64(n-2)))) {
			t.Error("all edges", n, count)
		}
		for _, g := range []impl.Graph{rowOf(n), starOf(n)} {
			if count, ok := impl.CountTrees(g); !ok || count != 1 {
				t.Error("a tree", g, count)
			}
		}
		if count, ok := impl.CountTrees(impl.Graph{Size: n}); !ok || (count == 1) != (n == 1) || (count == 0) != (n > 1) {
			t.Error("no edges", n, count)
		}
		if count, _ := impl.CountTrees(cycleOf(n)); n > 2 && count != n {
			t.Error("a cycle", n, count)
		}
	}
	for _, c := range []struct {
		g    impl.Graph
		want int
	}{
		{cube(), 384}, {twoSides(4), 4096}, {twoSides(3), 81}, {prism(), 75}, {looseTriangle(), 0}, {parted(), 0}, {twoTriangles(), 0}, {twoBlocks(), 0},
		{graphWithMaxTrees(), impl.MaxStates}, {graphWithOneTreeMore(), impl.MaxStates + 1}, {joinedAt(cycleOf(3), cycleOf(6)), 18}, {joinedAt(complete(4), complete(5)), 2000},
		// A node that no edge has, in each place: the first one, the last one and one in the middle.
		{impl.Graph{Size: 4, Edges: [][2]int{{0, 1}, {0, 2}, {1, 2}}}, 0}, {impl.Graph{Size: 4, Edges: [][2]int{{1, 2}, {1, 3}, {2, 3}}}, 0}, {impl.Graph{Size: 4, Edges: [][2]int{{0, 1}, {0, 3}, {1, 3}}}, 0},
	} {
		if count, ok := impl.CountTrees(c.g); !ok || count != c.want {
			t.Error("known number", c.g, count, c.want)
		}
	}
	if count, ok := impl.CountTrees(impl.Graph{}); ok || count != 0 {
		t.Error("no nodes", count)
	}
}

func TestSpanningTrees(t *testing.T) {
	few, many, none := 0, 0, 0
	for _, g := range treeGraphs() {
		count := countOf(g)
		trees, one := impl.SpanningTrees(g)
		x, two := impl.TreeSpace(g)
		if count == 0 || count > impl.MaxStates {
			if one || two || len(trees) > 0 || !sameSpace(x, impl.Space{}) {
				t.Fatal("none or too many", g, count, len(trees), len(x.States))
			}
			if count == 0 {
				none++
			} else {
				many++
			}
			continue
		}
		want := treesOf(g)
		if !one || !sameLists(trees, want) || len(trees) != count {
			t.Fatal("trees", g, trees)
		}
		if !two || !impl.IsSpace(x) || !sameSpace(x, exchangesOf(want)) {
			t.Fatal("space", g, x)
		}
		few++
	}
	if few < 90 || many < 20 || none < 50 {
		t.Error("too few", few, many, none)
	}
}

func TestTheMostTrees(t *testing.T) {
	trees, one := impl.SpanningTrees(graphWithMaxTrees())
	x, two := impl.TreeSpace(graphWithMaxTrees())
	if !one || !two || len(trees) != impl.MaxStates || len(x.States) != impl.MaxStates || !impl.IsSpace(x) {
		t.Error("just MaxStates", len(trees), len(x.States))
	}
	for _, g := range []impl.Graph{graphWithOneTreeMore(), complete(6), complete(8), cube()} {
		failAll(t, []aCall{{"SpanningTrees", impl.SpanningTrees, []any{g}}, {"TreeSpace", impl.TreeSpace, []any{g}}}, "more than MaxStates trees")
	}
}

func TestTreesOfASingleNode(t *testing.T) {
	g := impl.Graph{Size: 1}
	trees, one := impl.SpanningTrees(g)
	x, two := impl.TreeSpace(g)
	walk, three := impl.TreeWalk(g, nil, []int{})
	light, four := impl.LightTree(g, nil)
	y, five := impl.LightSpace(g, nil)
	is, six := impl.IsTree(g, nil)
	if !one || !two || !three || !four || !five || !six || !is || len(light) > 0 {
		t.Error("a single node", one, two, three, four, five, six, is, light)
	}
	empty := impl.Space{States: [][]int{{}}}
	if !sameLists(trees, empty.States) || !sameSpace(x, empty) || !sameLists(walk, empty.States) || !sameSpace(y, empty) {
		t.Error("one tree, without edges", trees, x, walk, y)
	}
}

func checkIsTree(t *testing.T, g impl.Graph, list []int, want bool) {
	t.Helper()
	if is, ok := impl.IsTree(g, list); is != want || ok != (g.Size > 0) {
		t.Fatal("tree", g, list, is, ok)
	}
}

// isListBelow reports whether a list is strictly ascending and has only numbers in 0..n-1.
func isListBelow(list []int, n int) bool {
	isList := slices.IsSorted(list) && len(slices.Compact(slices.Clone(list))) == len(list)
	return isList && (len(list) == 0 || list[0] >= 0 && list[len(list)-1] < n)
}

// TestIsTree tries all strictly ascending lists, and such lists as are none.
func TestIsTree(t *testing.T) {
	for _, g := range treeGraphs() {
		for digits := range 1 << min(len(g.Edges), 12) {
			list := []int{}
			for number := range g.Edges {
				if digits>>number&1 == 1 {
					list = append(list, number)
				}
			}
			checkIsTree(t, g, list, isTreeOf(g, list))
		}
		if g.Size > 0 && len(g.Edges) > 0 {
			everyList(min(g.Size, 3), -1, min(len(g.Edges), 4), func(list []int) {
				checkIsTree(t, g, list, isListBelow(list, len(g.Edges)) && isTreeOf(g, list))
			})
		}
	}
	for _, g := range fewTreeGraphs() {
		for _, tree := range spread(treesOf(g), 4) {
			checkIsTree(t, g, tree, true)
			for _, list := range notTrees(g, tree) {
				checkIsTree(t, g, list, false)
			}
		}
	}
	for _, list := range [][]int{nil, {0}, {-1}, {0, 1}} {
		checkIsTree(t, impl.Graph{}, list, false)
	}
}

// notTrees returns lists that are near to a tree, but none.
func notTrees(g impl.Graph, tree []int) [][]int {
	lists := [][]int{append(slices.Clone(tree), len(g.Edges)), append([]int{-1}, tree...), make([]int, 1000), {len(g.Edges)}, {-1}, {math.MaxInt}, {math.MinInt}}
	for _, edge := range notIn(numbersBelow(len(g.Edges)), tree) {
		longer := append(slices.Clone(tree), edge)
		slices.Sort(longer)
		lists = append(lists, longer)
	}
	for k, edge := range tree {
		shorter := slices.Delete(slices.Clone(tree), k, k+1)
		lists = append(lists, shorter, slices.Insert(slices.Clone(tree), k, edge))
		for _, far := range []int{len(g.Edges), len(g.Edges) + 1, 28, 64, 1 << 32, 1<<32 + edge, math.MaxInt} {
			lists = append(lists, append(slices.Clone(shorter), max(far, len(g.Edges))))
		}
		for _, far := range []int{-1, -2, -64, edge - 1<<32, math.MinInt} {
			lists = append(lists, append([]int{far}, shorter...))
		}
		if k > 0 {
			swapped := slices.Clone(tree)
			swapped[k-1], swapped[k] = edge, tree[k-1]
			lists = append(lists, swapped, slices.Insert(slices.Clone(shorter), k, tree[k-1]))
		}
		for _, other := range notIn(numbersBelow(len(g.Edges)), tree) {
			exchanged := append(slices.Clone(shorter), other)
			slices.Sort(exchanged)
			if !isTreeOf(g, exchanged) {
				lists = append(lists, exchanged) // closes a circle
			}
		}
	}
	return lists
}

// randomTree puts edges together in an order that is taken by chance.
func randomTree(g impl.Graph, random *rand.Rand) []int {
	tree := []int{}
	for _, number := range random.Perm(len(g.Edges)) {
		edge := g.Edges[number]
		if sideOf(edgesAt(g, tree), edge[0])>>edge[1]&1 == 0 {
			tree = append(tree, number)
		}
	}
	slices.Sort(tree)
	return tree
}

// someTrees returns trees of any connected Graph, all of them if they are few.
func someTrees(g impl.Graph, most int, random *rand.Rand) [][]int {
	if count := countOf(g); count <= most {
		return treesOf(g)
	}
	trees := [][]int{}
	for range most {
		trees = append(trees, randomTree(g, random))
	}
	return trees
}

func connectedGraphs() []impl.Graph {
	return slices.DeleteFunc(treeGraphs(), func(g impl.Graph) bool { return countOf(g) == 0 })
}

// TestCirclesAndCuts: an edge is in the circle of another one exactly if this is in its cut.
func TestCirclesAndCuts(t *testing.T) {
	random := rand.New(rand.NewSource(92))
	for _, g := range connectedGraphs() {
		for _, tree := range someTrees(g, 16, random) {
			cuts := map[int][]int{}
			for _, edge := range tree {
				cut, ok := impl.CutOf(g, tree, edge)
				if !ok || !slices.Equal(cut, cutOf(g, tree, edge)) || !slices.Contains(cut, edge) {
					t.Fatal("cut", g, tree, edge, cut, ok)
				}
				cuts[edge] = cut
			}
			for _, edge := range notIn(numbersBelow(len(g.Edges)), tree) {
				circle, ok := impl.CircleOf(g, tree, edge)
				if !ok || !slices.Equal(circle, circleOf(g, tree, edge)) || len(circle) < 3 {
					t.Fatal("circle", g, tree, edge, circle, ok)
				}
				for _, other := range tree {
					if slices.Contains(circle, other) != slices.Contains(cuts[other], edge) {
						t.Fatal("circle and cut", g, tree, edge, other, circle, cuts[other])
					}
				}
			}
		}
	}
}

func TestKnownCirclesAndCuts(t *testing.T) {
	ring := numbersBelow(7)
	for _, c := range []struct {
		g    impl.Graph
		tree []int
		edge int
		want []int
	}{
		{cycleOf(8), ring, 7, []int{0, 1, 2, 3, 4, 5, 6, 7}}, {cycleOf(3), []int{0, 2}, 1, []int{0, 1, 2}}, {joinedAt(cycleOf(3), rowOf(2)), []int{0, 1, 3}, 2, []int{0, 1, 2}},
		{complete(4), []int{0, 1, 2}, 5, []int{1, 2, 5}}, {complete(4), []int{0, 3, 5}, 2, []int{0, 2, 3, 5}}, {complete(4), []int{0, 3, 5}, 4, []int{3, 4, 5}},
	} {
		if circle, ok := impl.CircleOf(c.g, c.tree, c.edge); !ok || !slices.Equal(circle, c.want) {
			t.Error("circle", c, circle)
		}
	}
	for _, c := range []struct {
		g    impl.Graph
		tree []int
		edge int
		want []int
	}{
		{rowOf(2), []int{0}, 0, []int{0}}, {rowOf(8), ring, 3, []int{3}}, {cycleOf(8), ring, 0, []int{0, 7}}, {joinedAt(cycleOf(3), rowOf(2)), []int{0, 1, 3}, 3, []int{3}},
		{complete(4), []int{0, 1, 2}, 0, []int{0, 3, 4}}, {complete(4), []int{0, 3, 5}, 3, []int{1, 2, 3, 4}}, {complete(8), ring, 6, []int{6, 12, 17, 21, 24, 26, 27}},
	} {
		if cut, ok := impl.CutOf(c.g, c.tree, c.edge); !ok || !slices.Equal(cut, c.want) {
			t.Error("cut", c, cut)
		}
	}
}

func checkTreeWalk(t *testing.T, g impl.Graph, a []int, b []int) {
	t.Helper()
	walk, ok := impl.TreeWalk(g, a, b)
	if !ok || !sameLists(walk, treeWalkOf(g, a, b)) || len(walk) != len(notIn(a, b))+1 {
		t.Fatal("walk", g, a, b, walk, ok)
	}
	if !slices.Equal(walk[0], a) || !slices.Equal(walk[len(walk)-1], b) {
		t.Fatal("ends", g, a, b, walk)
	}
	for k, tree := range walk {
		if !isTreeOf(g, tree) || !slices.IsSorted(tree) || k > 0 && !isExchange(walk[k-1], tree) {
			t.Fatal("exchanges", g, a, b, walk)
		}
	}
}

// TestTreeWalk includes Graphs with more than MaxStates trees.
func TestTreeWalk(t *testing.T) {
	random := rand.New(rand.NewSource(93))
	farthest := map[int]bool{}
	for _, g := range connectedGraphs() {
		trees := someTrees(g, 16, random)
		for _, a := range trees {
			for _, b := range trees {
				checkTreeWalk(t, g, a, b)
				farthest[len(notIn(a, b))] = true
			}
		}
	}
	for differ := range impl.MaxNodes {
		if !farthest[differ] {
			t.Error("no trees differ by so many edges", differ)
		}
	}
}

func TestKnownTreeWalks(t *testing.T) {
	type lists = [][]int
	for _, c := range []struct {
		g    impl.Graph
		a, b []int
		want lists
	}{
		{impl.Graph{Size: 1}, nil, nil, lists{{}}}, {rowOf(2), []int{0}, []int{0}, lists{{0}}}, {rowOf(8), numbersBelow(7), numbersBelow(7), lists{{0, 1, 2, 3, 4, 5, 6}}},
		{cycleOf(4), []int{0, 1, 2}, []int{1, 2, 3}, lists{{0, 1, 2}, {1, 2, 3}}}, {cycleOf(4), []int{1, 2, 3}, []int{0, 1, 2}, lists{{1, 2, 3}, {0, 1, 2}}},
		// From the star of the node 0 to the row 1 2 3 and 0 at its end, by edges 0-1 0-2 0-3 1-2 1-3 2-3.
		{complete(4), []int{0, 1, 2}, []int{0, 3, 5}, lists{{0, 1, 2}, {0, 2, 3}, {0, 3, 5}}},
		// All edges differ: each that is put in takes the least one of its circle away.
		{complete(4), []int{0, 1, 5}, []int{2, 3, 4}, lists{{0, 1, 5}, {0, 2, 5}, {2, 3, 5}, {2, 3, 4}}},
		{complete(4), []int{2, 3, 4}, []int{0, 1, 5}, lists{{2, 3, 4}, {0, 3, 4}, {0, 1, 4}, {0, 1, 5}}},
	} {
		if walk, ok := impl.TreeWalk(c.g, c.a, c.b); !ok || !sameLists(walk, c.want) {
			t.Error("walk", c, walk)
		}
	}
}

// checkDifferences checks that distances tell how many edges of a tree are not in another one.
func checkDifferences(t *testing.T, x impl.Space, places []int) {
	t.Helper()
	for _, i := range places {
		distances, ok := impl.DistancesFrom(x, i)
		if !ok || len(distances) != len(x.States) {
			t.Fatal("distances", i, distances)
		}
		for j, distance := range distances {
			if distance != len(notIn(x.States[i], x.States[j])) {
				t.Fatal("as many exchanges as they differ", x.States[i], x.States[j], distance)
			}
		}
	}
}

// TestTreesHaveAsManyExchangesAsTheyDiffer holds promise 7.
func TestTreesHaveAsManyExchangesAsTheyDiffer(t *testing.T) {
	random := rand.New(rand.NewSource(94))
	pairs := 0
	for _, g := range fewTreeGraphs() {
		x, ok := impl.TreeSpace(g)
		if !ok {
			t.Fatal("no space", g)
		}
		places := random.Perm(len(x.States))
		if len(places) > 150 {
			places = places[:20]
		}
		checkDifferences(t, x, places)
		pairs += len(places) * len(x.States)
	}
	if pairs < 100000 {
		t.Error("too few", pairs)
	}
}
