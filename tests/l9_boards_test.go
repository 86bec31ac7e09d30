package tests

import (
	"math"
	"math/rand"
	"slices"
	"testing"

	"loop.example/g01128/impl"
)

// slidesNextTo returns the pairs of a node whose token can slide and that of the hole.
func slidesNextTo(g impl.Graph) func(board []int) [][2]int {
	return func(board []int) [][2]int {
		hole, slides := slices.Index(board, 0), [][2]int{}
		for node := range g.Size {
			if hasEdge(g, node, hole) {
				slides = append(slides, [2]int{node, hole})
			}
		}
		return slides
	}
}

// firstNodes returns the nodes whose tokens slide.
func firstNodes(slides [][2]int) []int {
	nodes := []int{}
	for _, slide := range slides {
		nodes = append(nodes, slide[0])
	}
	return nodes
}

// boardParts returns, by the codes of all boards, how many boards slides lead to. It takes the
// boards in any order, and joins those that one slide connects.
func boardParts(g impl.Graph) map[int]int {
	slides := slidesNextTo(g)
	parts := map[int]*[]int{}
	boards := permutationsOf(g.Size)
	for _, board := range boards {
		parts[codeOf(board)] = &[]int{codeOf(board)}
	}
	for _, board := range boards {
		for _, slide := range slides(board) {
			part, other := parts[codeOf(board)], parts[codeOf(withSwap(board, slide))]
			if part == other {
				continue
			}
			if len(*part) < len(*other) {
				part, other = other, part
			}
			*part = append(*part, *other...)
			for _, code := range *other {
				parts[code] = part
			}
		}
	}
	sizes := map[int]int{}
	for code, part := range parts {
		sizes[code] = len(*part)
	}
	return sizes
}

// isConnectedWithout reports whether all nodes but one are connected with each other; but is no
// node if none is left out.
func isConnectedWithout(g impl.Graph, but int) bool {
	edges := [][2]int{}
	for _, edge := range g.Edges {
		if edge[0] != but && edge[1] != but {
			edges = append(edges, edge)
		}
	}
	nodes := slices.DeleteFunc(numbersBelow(g.Size), func(node int) bool { return node == but })
	return len(nodes) > 0 && sideOf(edges, nodes[0]) == digitsFor(nodes)
}

func isTwofoldGraph(g impl.Graph) bool {
	for but := -1; but < g.Size; but++ {
		if !isConnectedWithout(g, but) {
			return false
		}
	}
	return g.Size >= 3
}

// isEvenGraph tries all lists of 0 and 1.
func isEvenGraph(g impl.Graph) bool {
	for digits := range 1 << g.Size {
		isUneven := func(edge [2]int) bool { return digits>>edge[0]&1 == digits>>edge[1]&1 }
		if !slices.ContainsFunc(g.Edges, isUneven) {
			return true
		}
	}
	return false
}

func checkShape(t *testing.T, g impl.Graph, wantTwofold bool, wantEven bool) {
	t.Helper()
	if twofold, ok := impl.IsTwofold(g); !ok || twofold != wantTwofold {
		t.Error("twofold", g, twofold, ok)
	}
	if even, ok := impl.IsEven(g); !ok || even != wantEven {
		t.Error("even", g, even, ok)
	}
}

func TestTwofoldAndEvenGraphs(t *testing.T) {
	seen := map[[2]bool]int{}
	for _, g := range slices.Concat(graphsOf(5), shapesOf(6), chosenMatchingGraphs()) {
		twofold, even := isTwofoldGraph(g), isEvenGraph(g)
		checkShape(t, g, twofold, even)
		seen[[2]bool{twofold, even}]++
	}
	for _, twofold := range []bool{false, true} {
		for _, even := range []bool{false, true} {
			if seen[[2]bool{twofold, even}] < 20 {
				t.Error("too few", seen)
			}
		}
	}
}

// theta has ways with some numbers of nodes between the nodes 0 and 1.
func theta(between ...int) impl.Graph {
	g := impl.Graph{Size: 2}
	for _, nodes := range between {
		last := 0
		for range nodes {
			g.Edges = append(g.Edges, [2]int{last, g.Size})
			last = g.Size
			g.Size++
		}
		g.Edges = append(g.Edges, [2]int{min(last, 1), max(last, 1)})
	}
	slices.SortFunc(g.Edges, func(a [2]int, b [2]int) int { return slices.Compare(a[:], b[:]) })
	return g
}

// grid has 2 rows of 3 nodes.
func grid() impl.Graph {
	return impl.Graph{Size: 6, Edges: [][2]int{{0, 1}, {0, 3}, {1, 2}, {1, 4}, {2, 5}, {3, 4}, {4, 5}}}
}

func TestKnownShapes(t *testing.T) {
	for _, c := range []struct {
		name          string
		g             impl.Graph
		twofold, even bool
	}{
		{"no nodes", impl.Graph{}, false, true}, {"one node", impl.Graph{Size: 1}, false, true}, {"two nodes", impl.Graph{Size: 2}, false, true}, {"an edge", rowOf(2), false, true},
		{"a row", rowOf(3), false, true}, {"a triangle", cycleOf(3), true, false}, {"three nodes", impl.Graph{Size: 3}, false, true}, {"a square", cycleOf(4), true, true}, {"5 nodes", cycleOf(5), true, false},
		{"a star", starOf(8), false, true}, {"8 nodes", impl.Graph{Size: 8}, false, true}, {"all edges", complete(8), true, false}, {"a great circle", cycleOf(8), true, true}, {"7 nodes", cycleOf(7), true, false},
		{"a triangle and a node", looseTriangle(), false, false}, {"two triangles", twoTriangles(), false, false}, {"triangles with a common node", joinedAt(cycleOf(3), cycleOf(3)), false, false},
		{"squares with a common node", joinedAt(cycleOf(4), cycleOf(4)), false, true}, {"two squares", twoSquares(), false, true}, {"a square and a node beside it", joinedAt(rowOf(2), cycleOf(4)), false, true},
		{"two sides", twoSides(3), true, true}, {"a prism", prism(), true, false}, {"a cube", cube(), true, true}, {"a grid", grid(), true, true}, {"parts", parted(), false, true},
	} {
		if twofold, ok := impl.IsTwofold(c.g); !ok || twofold != c.twofold {
			t.Error("twofold", c.name, twofold, ok)
		}
		if even, ok := impl.IsEven(c.g); !ok || even != c.even {
			t.Error("even", c.name, even, ok)
		}
	}
}

// slidBoard makes slides one after the other, if each is possible.
func slidBoard(g impl.Graph, board []int, list []int) ([]int, bool) {
	for _, node := range list {
		k := slices.Index(firstNodes(slidesNextTo(g)(board)), node)
		if k < 0 {
			return nil, false
		}
		board = withSwap(board, slidesNextTo(g)(board)[k])
	}
	return board, true
}

func checkSlides(t *testing.T, g impl.Graph, board []int, list []int) {
	t.Helper()
	want, isValid := slidBoard(g, board, list)
	behind, ok := impl.SlideTokens(g, board, list)
	if ok != isValid || !slices.Equal(behind, want) {
		t.Error("slides", g, board, list, behind, ok, want)
	}
}

// TestSlideTokens tries all lists of few numbers near the nodes, and long ones from a fixed seed.
func TestSlideTokens(t *testing.T) {
	random := rand.New(rand.NewSource(9))
	for n := 1; n <= impl.MaxBoard; n++ {
		for _, g := range shapesOf(n) {
			boards := spread(permutationsOf(n), 5)
			for _, board := range boards {
				checkSlides(t, g, board, nil)
				everyList(max(2, 5-n/2), -1, n, func(list []int) { checkSlides(t, g, board, list) })
			}
			for range 10 {
				board, list := boards[random.Intn(len(boards))], []int{}
				for behind := board; len(list) < 40; {
					slides := slidesNextTo(g)(behind)
					if len(slides) == 0 {
						break
					}
					slide := slides[random.Intn(len(slides))]
					list, behind = append(list, slide[0]), withSwap(behind, slide)
				}
				checkSlides(t, g, board, list)
				for k := range list {
					checkSlides(t, g, board, withColour(list, k, random.Intn(n+2)-1))
				}
			}
		}
	}
}

func TestKnownSlides(t *testing.T) {
	for _, c := range []struct {
		g     impl.Graph
		board []int
		list  []int
		want  []int
	}{
		{impl.Graph{Size: 1}, []int{0}, nil, []int{0}}, {impl.Graph{Size: 2}, []int{1, 0}, []int{}, []int{1, 0}}, {rowOf(2), []int{0, 1}, []int{1}, []int{1, 0}}, {rowOf(2), []int{0, 1}, []int{1, 0, 1}, []int{1, 0}},
		// The nodes are told, not the tokens.
		{rowOf(3), []int{2, 0, 1}, []int{2}, []int{2, 1, 0}}, {rowOf(3), []int{2, 0, 1}, []int{0, 1, 2}, []int{2, 1, 0}},
		{cycleOf(4), []int{0, 1, 2, 3}, []int{1, 2, 3, 0}, []int{0, 2, 3, 1}}, {grid(), numbersBelow(6), []int{1, 2, 5, 4, 3, 0}, []int{0, 2, 5, 1, 3, 4}},
		{complete(6), []int{5, 4, 3, 2, 1, 0}, []int{0, 1, 2}, []int{4, 3, 0, 2, 1, 5}},
	} {
		if behind, ok := impl.SlideTokens(c.g, c.board, c.list); !ok || !slices.Equal(behind, c.want) {
			t.Error("slides", c, behind, ok)
		}
	}
}

// TestSlideTokensFailsForOtherNodes: there is one that cannot slide, in front, behind or between
// others.
func TestSlideTokensFailsForOtherNodes(t *testing.T) {
	for _, c := range []struct {
		g     impl.Graph
		board []int
		list  []int
	}{{impl.Graph{Size: 1}, []int{0}, nil}, {rowOf(2), []int{0, 1}, []int{1, 0}}, {rowOf(4), []int{1, 0, 2, 3}, []int{2, 3}}, {grid(), numbersBelow(6), []int{1, 4, 3}}} {
		for k := range len(c.list) + 1 {
			behind, _ := slidBoard(c.g, c.board, c.list[:k])
			hole := slices.Index(behind, 0)
			others := []int{hole, -1, -2, c.g.Size, 8, 64, 1 << 32, 1<<32 + hole, hole - 1<<32, math.MinInt, math.MaxInt}
			for _, slide := range slidesNextTo(c.g)(behind) {
				others = append(others, slide[0]+1<<32, slide[0]-1<<32, -1-slide[0])
			}
			for node := range c.g.Size {
				if !hasEdge(c.g, node, hole) {
					others = append(others, node)
				}
			}
			for _, other := range others {
				failAll(t, []aCall{slideTokensCall(c.g, c.board, slices.Insert(slices.Clone(c.list), k, other))}, "not next to the hole")
			}
		}
	}
}

// boardGraphs returns all Graphs of up to 5 nodes and one of each shape with 6 nodes.
func boardGraphs() []impl.Graph {
	graphs := []impl.Graph{}
	for n := 1; n <= 5; n++ {
		graphs = append(graphs, allOfSize(n)...)
	}
	return append(graphs, shapesOf(6)...)
}

func checkReached(t *testing.T, g impl.Graph, board []int, want int) {
	t.Helper()
	if reached, ok := impl.BoardsReached(g, board); !ok || reached != want {
		t.Error("reached", g, board, reached, ok, want)
	}
}

func TestBoardsReached(t *testing.T) {
	most := []int{0, 1, 2, 6, 24, 4, 6}
	for _, g := range boardGraphs() {
		sizes := boardParts(g)
		for _, board := range spread(permutationsOf(g.Size), most[g.Size]) {
			checkReached(t, g, board, sizes[codeOf(board)])
		}
	}
}

func TestKnownBoardsReached(t *testing.T) {
	for _, c := range []struct {
		name  string
		g     impl.Graph
		board []int
		want  int
	}{
		{"one node", impl.Graph{Size: 1}, []int{0}, 1}, {"two nodes", impl.Graph{Size: 2}, []int{1, 0}, 1}, {"an edge", rowOf(2), []int{1, 0}, 2}, {"a row", rowOf(6), []int{3, 4, 0, 5, 1, 2}, 6},
		{"a star", starOf(5), []int{1, 0, 2, 3, 4}, 5}, {"no edges", impl.Graph{Size: 6}, numbersBelow(6), 1}, {"a hole alone", looseTriangle(), []int{1, 2, 3, 0}, 1}, {"a hole among others", looseTriangle(), []int{1, 0, 2, 3}, 6},
		{"a circle", cycleOf(6), numbersBelow(6), 30}, {"a grid", grid(), numbersBelow(6), 360}, {"all edges", complete(6), numbersBelow(6), 720}, {"two nodes of parts", parted(), numbersBelow(5), 2},
		{"triangles with a common node", joinedAt(cycleOf(3), cycleOf(3)), numbersBelow(5), 20},
	} {
		if reached, ok := impl.BoardsReached(c.g, c.board); !ok || reached != c.want {
			t.Error("reached", c.name, reached, ok)
		}
	}
}

// TestBoardsTold is promise 9: for all boards by the parts of an independent calculation, and for
// some of each Graph by BoardsReached.
func TestBoardsTold(t *testing.T) {
	twofolds := map[int]int{}
	most := []int{0, 0, 0, 6, 24, 24, 30}
	for _, g := range boardGraphs() {
		if !isTwofoldGraph(g) {
			failAll(t, []aCall{toldCall(g)}, "not twofold")
			continue
		}
		twofolds[g.Size]++
		told, ok := impl.BoardsTold(g)
		if !ok {
			t.Error("told", g)
		}
		for _, size := range boardParts(g) {
			if size != told {
				t.Fatal("told", g, told, size)
			}
		}
		for _, board := range spread(permutationsOf(g.Size), most[g.Size]) {
			checkReached(t, g, board, told)
		}
	}
	// So many Graphs of 3 to 5 nodes are twofold, and so many shapes of 6.
	for n, want := range map[int]int{3: 1, 4: 10, 5: 238, 6: 56} {
		if twofolds[n] != want {
			t.Error("twofold Graphs", n, twofolds[n])
		}
	}
}

// TestEachBoardIsReachedAsTold takes every board of some Graphs.
func TestEachBoardIsReachedAsTold(t *testing.T) {
	for _, g := range []impl.Graph{cycleOf(5), cycleOf(6), complete(5), twoSides(2), theta(0, 1, 1), theta(0, 1, 2), theta(1, 1, 1), theta(0, 2, 2), grid()} {
		told, ok := impl.BoardsTold(g)
		if !ok {
			t.Error("told", g)
		}
		for _, board := range permutationsOf(g.Size) {
			checkReached(t, g, board, told)
		}
	}
}

func TestKnownBoardsTold(t *testing.T) {
	for _, c := range []struct {
		name string
		g    impl.Graph
		want int
	}{
		{"a triangle", cycleOf(3), 6}, {"a square", cycleOf(4), 12}, {"5 nodes", cycleOf(5), 20}, {"6 nodes", cycleOf(6), 30}, {"all edges of 4", complete(4), 24}, {"all edges of 5", complete(5), 120}, {"all edges of 6", complete(6), 720},
		{"a square with a diagonal", theta(0, 1, 1), 24}, {"two and three nodes", theta(1, 1, 1), 60}, {"a roof", theta(0, 1, 2), 120}, {"a grid", grid(), 360}, {"two sides", twoSides(3), 360}, {"a prism", prism(), 720},
		{"three ways of uneven lengths", theta(0, 1, 3), 720}, {"one way of an even length", theta(1, 1, 2), 720}, {"two and four nodes", theta(1, 1, 1, 1), 360},
	} {
		if told, ok := impl.BoardsTold(c.g); !ok || told != c.want {
			t.Error("told", c.name, told, ok)
		}
	}
}

func TestBoardsToldFailsForOtherGraphs(t *testing.T) {
	for _, g := range greaterGraphs() {
		failAll(t, []aCall{toldCall(g)}, "more than MaxBoard nodes")
	}
	for _, g := range []impl.Graph{{}, {Size: 1}, {Size: 2}, rowOf(2), {Size: 3}, rowOf(3), starOf(5), looseTriangle(), parted(), twoTriangles(), joinedAt(cycleOf(3), cycleOf(3)), joinedAt(cycleOf(4), cycleOf(3)), {Size: 6}} {
		failAll(t, []aCall{toldCall(g)}, "not twofold")
	}
}

// checkPlan holds SlideDistance and SlidePlan against the shortest lists to the second board.
func checkPlan(t *testing.T, g impl.Graph, a []int, b []int, lists map[int][][2]int) {
	t.Helper()
	want := lists[codeOf(a)]
	if want == nil {
		failAll(t, planCalls(g, a, b), "no slides")
		return
	}
	far, isFar := impl.SlideDistance(g, a, b)
	plan, ok := impl.SlidePlan(g, a, b)
	if !isFar || !ok || far != len(want) || !slices.Equal(plan, firstNodes(want)) {
		t.Error("plan", g, a, b, far, isFar, plan, ok, want)
	}
	if behind, ok := impl.SlideTokens(g, a, plan); !ok || !slices.Equal(behind, b) {
		t.Error("plan leads elsewhere", g, a, b, plan, behind, ok)
	}
}

// TestSlidePlans takes all pairs of boards of up to 4 nodes, and some of more from a fixed seed.
func TestSlidePlans(t *testing.T) {
	random := rand.New(rand.NewSource(9))
	targets, starts := []int{0, 1, 2, 6, 24, 1, 2}, []int{0, 1, 2, 6, 24, 5, 6}
	for _, g := range boardGraphs() {
		all, boards := permutationsOf(g.Size), permutationsOf(g.Size)
		if g.Size > 4 {
			random.Shuffle(len(all), func(i int, j int) { all[i], all[j] = all[j], all[i] })
		}
		for _, b := range all[:targets[g.Size]] {
			lists := shortestLists(b, slidesNextTo(g))
			random.Shuffle(len(boards), func(i int, j int) { boards[i], boards[j] = boards[j], boards[i] })
			for _, a := range boards[:starts[g.Size]] {
				checkPlan(t, g, a, b, lists)
			}
			checkPlan(t, g, farthest(boards, lists), b, lists)
		}
	}
}

// farthest returns one of the boards from which it takes the most slides.
func farthest(boards [][]int, lists map[int][][2]int) []int {
	return slices.MaxFunc(boards, func(a []int, b []int) int { return len(lists[codeOf(a)]) - len(lists[codeOf(b)]) })
}

func TestKnownPlans(t *testing.T) {
	for _, c := range []struct {
		g    impl.Graph
		a, b []int
		want []int
	}{
		{impl.Graph{Size: 1}, []int{0}, []int{0}, nil}, {impl.Graph{Size: 2}, []int{1, 0}, []int{1, 0}, nil}, {rowOf(2), []int{1, 0}, []int{0, 1}, []int{0}}, {grid(), numbersBelow(6), numbersBelow(6), nil},
		{rowOf(4), []int{0, 1, 2, 3}, []int{1, 2, 3, 0}, []int{1, 2, 3}}, {rowOf(4), []int{1, 2, 3, 0}, []int{0, 1, 2, 3}, []int{2, 1, 0}}, {parted(), []int{2, 1, 0, 3, 4}, []int{2, 1, 3, 0, 4}, []int{3}},
		// Around a triangle it takes as many slides in both directions.
		{cycleOf(3), []int{0, 1, 2}, []int{0, 2, 1}, []int{1, 2, 0}}, {complete(4), []int{0, 1, 2, 3}, []int{0, 2, 1, 3}, []int{1, 2, 0}}, {cycleOf(4), []int{0, 1, 2, 3}, []int{3, 1, 2, 0}, []int{3}},
		{cycleOf(6), numbersBelow(6), []int{0, 2, 3, 4, 5, 1}, []int{1, 2, 3, 4, 5, 0}}, {cycleOf(6), []int{0, 2, 3, 4, 5, 1}, numbersBelow(6), []int{5, 4, 3, 2, 1, 0}},
	} {
		plan, ok := impl.SlidePlan(c.g, c.a, c.b)
		far, isFar := impl.SlideDistance(c.g, c.a, c.b)
		if !ok || !isFar || !slices.Equal(plan, c.want) || far != len(c.want) {
			t.Error("plan", c, plan, ok, far, isFar)
		}
	}
	for _, c := range []struct {
		g    impl.Graph
		a, b []int
	}{
		{impl.Graph{Size: 2}, []int{0, 1}, []int{1, 0}}, {rowOf(3), []int{0, 1, 2}, []int{0, 2, 1}}, {cycleOf(4), []int{0, 1, 2, 3}, []int{2, 1, 0, 3}}, {parted(), numbersBelow(5), []int{2, 1, 0, 3, 4}},
		{grid(), numbersBelow(6), []int{0, 2, 1, 3, 4, 5}}, {cycleOf(6), numbersBelow(6), []int{0, 5, 4, 3, 2, 1}}, {twoSides(3), numbersBelow(6), []int{0, 1, 2, 3, 5, 4}}, {impl.Graph{Size: 6}, numbersBelow(6), turnedOnce(6)},
	} {
		failAll(t, planCalls(c.g, c.a, c.b), "no slides")
	}
}

// TestFarthestBoards: it takes at most 21 slides in a grid of 2 rows of 3 nodes, and 15 around a
// circle of 6.
func TestFarthestBoards(t *testing.T) {
	for _, c := range []struct {
		g          impl.Graph
		most, none int
	}{{grid(), 21, 360}, {cycleOf(6), 15, 690}, {rowOf(6), 5, 714}} {
		most, none := 0, 0
		for _, board := range permutationsOf(6) {
			far, ok := impl.SlideDistance(c.g, board, numbersBelow(6))
			most = max(most, far)
			if !ok {
				none++
			}
		}
		if most != c.most || none != c.none {
			t.Error("farthest", c, most, none)
		}
	}
}
