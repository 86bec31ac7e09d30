package tests

import (
	"math/rand"
	"slices"
	"testing"

	"loop.example/g01128/impl"
)

func weightOf(tree []int, weights []int) int {
	sum := 0
	for _, edge := range tree {
		sum += weights[edge]
	}
	return sum
}

// lightTreesOf returns those of a list of all trees that have the least sum.
func lightTreesOf(trees [][]int, weights []int) [][]int {
	least := -1
	for _, tree := range trees {
		if weight := weightOf(tree, weights); least < 0 || weight < least {
			least = weight
		}
	}
	isHeavier := func(tree []int) bool { return weightOf(tree, weights) != least }
	return slices.DeleteFunc(slices.Clone(trees), isHeavier)
}

// randomWeights returns weights in 0..most.
func randomWeights(g impl.Graph, most int, random *rand.Rand) []int {
	weights := []int{}
	for range g.Edges {
		weights = append(weights, random.Intn(most+1))
	}
	return weights
}

// weightsFor returns weights with few and with many light trees.
func weightsFor(g impl.Graph, random *rand.Rand) [][]int {
	n := len(g.Edges)
	ascending := numbersBelow(n)
	descending := slices.Clone(ascending)
	slices.Reverse(descending)
	lists := [][]int{make([]int, n), slices.Repeat([]int{1}, n), slices.Repeat([]int{impl.MaxWeight}, n), ascending, descending}
	for _, most := range []int{1, 1, 1, 2, 3, impl.MaxWeight, impl.MaxWeight} {
		lists = append(lists, randomWeights(g, most, random))
	}
	two := []int{}
	for range n {
		two = append(two, random.Intn(2)*impl.MaxWeight)
	}
	return append(lists, two)
}

func checkLight(t *testing.T, g impl.Graph, trees [][]int, weights []int) {
	t.Helper()
	want := lightTreesOf(trees, weights)
	light, one := impl.LightTree(g, weights)
	if one != (len(want) > 0) || one && !slices.Equal(light, want[0]) || !one && len(light) > 0 {
		t.Fatal("light tree", g, weights, light, one, want)
	}
	x, two := impl.LightSpace(g, weights)
	if len(trees) == 0 || len(trees) > impl.MaxStates {
		if two || !sameSpace(x, impl.Space{}) {
			t.Fatal("none or too many", g, weights, x)
		}
		return
	}
	if !two || !impl.IsSpace(x) || !sameSpace(x, exchangesOf(want)) {
		t.Fatal("light space", g, weights, x, two)
	}
}

func TestLightTrees(t *testing.T) {
	random := rand.New(rand.NewSource(95))
	for _, g := range treeGraphs() {
		if len(g.Edges) > 14 {
			continue
		}
		trees := treesOf(g)
		for _, weights := range weightsFor(g, random) {
			checkLight(t, g, trees, weights)
		}
	}
}

// TestLightTreesForAllWeights tries all lists of weights of 0, 1 and 2.
func TestLightTreesForAllWeights(t *testing.T) {
	for _, g := range smallGraphs() {
		trees := treesOf(g)
		everyList(len(g.Edges), 0, 2, func(weights []int) {
			if len(weights) == len(g.Edges) {
				checkLight(t, g, trees, weights)
			}
		})
	}
}

// finely makes weights different, so that the lightest tree is the first one of the light trees:
// the less an edge is, the more it is worth to have it.
func finely(weights []int) []int {
	fine := []int{}
	for edge, weight := range weights {
		fine = append(fine, weight<<40-1<<(len(weights)-edge))
	}
	return fine
}

// TestLightTreesOfGreatGraphs looks at circles instead of all trees: a tree is the lightest one
// if each edge that is not in it is the heaviest one of its circle.
func TestLightTreesOfGreatGraphs(t *testing.T) {
	random := rand.New(rand.NewSource(96))
	many := 0
	for _, g := range connectedGraphs() {
		if countOf(g) > impl.MaxStates {
			many++
		}
		for _, weights := range weightsFor(g, random) {
			light, ok := impl.LightTree(g, weights)
			if !ok || !isTreeOf(g, light) || !slices.IsSorted(light) {
				t.Fatal("light tree", g, weights, light, ok)
			}
			fine := finely(weights)
			for _, edge := range notIn(numbersBelow(len(g.Edges)), light) {
				for _, other := range circleOf(g, light, edge) {
					if fine[other] > fine[edge] {
						t.Fatal("not the first light tree", g, weights, light, edge, other)
					}
				}
			}
			for range 20 {
				if tree := randomTree(g, random); weightOf(tree, weights) < weightOf(light, weights) {
					t.Fatal("a lighter tree", g, weights, light, tree)
				}
			}
		}
	}
	if many < 40 {
		t.Error("too few", many)
	}
}

func TestKnownLightTrees(t *testing.T) {
	type lists = [][]int
	ring := []int{impl.MaxWeight, 0, 1, 1}
	for _, c := range []struct {
		g       impl.Graph
		weights []int
		light   lists
		steps   int
	}{
		{impl.Graph{Size: 1}, nil, lists{{}}, 0}, {rowOf(2), []int{impl.MaxWeight}, lists{{0}}, 0}, {rowOf(3), []int{5, 0}, lists{{0, 1}}, 0},
		{cycleOf(4), ring, lists{{1, 2, 3}}, 0}, {cycleOf(4), []int{0, 0, 0, 0}, lists{{0, 1, 2}, {0, 1, 3}, {0, 2, 3}, {1, 2, 3}}, 6}, {cycleOf(4), []int{1, 2, 2, 1}, lists{{0, 1, 3}, {0, 2, 3}}, 1},
		{cycleOf(3), []int{99, 99, 98}, lists{{0, 2}, {1, 2}}, 1}, {cycleOf(3), []int{98, 99, 99}, lists{{0, 1}, {0, 2}}, 1},
		{complete(4), []int{1, 1, 2, 1, 2, 2}, lists{{0, 1, 2}, {0, 1, 4}, {0, 1, 5}, {0, 2, 3}, {0, 3, 4}, {0, 3, 5}, {1, 2, 3}, {1, 3, 4}, {1, 3, 5}}, 18},
	} {
		light, one := impl.LightTree(c.g, c.weights)
		x, two := impl.LightSpace(c.g, c.weights)
		if !one || !two || !slices.Equal(light, c.light[0]) || !sameLists(x.States, c.light) || len(x.Steps) != c.steps {
			t.Error("light", c, light, x)
		}
	}
}

// TestLightSpaceCountsAllTrees: a Graph with too many trees has no LightSpace, even if a single
// one is light.
func TestLightSpaceCountsAllTrees(t *testing.T) {
	for _, g := range []impl.Graph{complete(6), complete(8), cube(), twoSides(4), graphWithOneTreeMore()} {
		for _, weights := range [][]int{numbersBelow(len(g.Edges)), make([]int, len(g.Edges))} {
			light, ok := impl.LightTree(g, weights)
			if !ok || !isTreeOf(g, light) {
				t.Error("light tree", g, light)
			}
			failAll(t, []aCall{{"LightSpace", impl.LightSpace, []any{g, weights}}}, "more than MaxStates trees")
		}
	}
	g := graphWithMaxTrees()
	for _, c := range []struct {
		weights []int
		states  int
	}{{numbersBelow(len(g.Edges)), 1}, {make([]int, len(g.Edges)), impl.MaxStates}} {
		if x, ok := impl.LightSpace(g, c.weights); !ok || len(x.States) != c.states {
			t.Error("just MaxStates trees", c, len(x.States))
		}
	}
}

// TestLightTreesHaveAsManyExchangesAsTheyDiffer holds promise 7 for light trees.
func TestLightTreesHaveAsManyExchangesAsTheyDiffer(t *testing.T) {
	random := rand.New(rand.NewSource(97))
	pairs := 0
	for _, g := range fewTreeGraphs() {
		for _, weights := range weightsFor(g, random) {
			x, ok := impl.LightSpace(g, weights)
			if !ok || len(x.States) == 0 {
				t.Fatal("no space", g, weights)
			}
			places := random.Perm(len(x.States))
			places = places[:min(len(places), 10)]
			checkDifferences(t, x, places)
			pairs += len(places) * (len(x.States) - 1)
		}
	}
	if pairs < 10000 {
		t.Error("too few", pairs)
	}
}
