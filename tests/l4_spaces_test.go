package tests

import (
	"math"
	"math/rand"
	"slices"
	"testing"

	"loop.example/g01128/impl"
)

func thresholdSpace(g impl.Graph, kind int, k int) impl.Space {
	least, most := 0, k
	if kind == impl.KindClique {
		least, most = k, g.Size
	}
	return spaceOf(kindSets(g, kind, least, most), func(apart []int) bool { return len(apart) == 1 })
}

func exchangeSpace(g impl.Graph, kind int, k int) impl.Space {
	return spaceOf(kindSets(g, kind, k, k), func(apart []int) bool { return len(apart) == 2 })
}

func kindSlides(g impl.Graph, kind int, k int) impl.Space {
	return spaceOf(kindSets(g, kind, k, k), func(apart []int) bool { return len(apart) == 2 && hasEdge(g, apart[0], apart[1]) })
}

// distantNumbers returns numbers that are not in 0..Size, those one beyond it among them.
func distantNumbers(g impl.Graph) []int {
	return []int{-1, g.Size + 1, -g.Size - 1, g.Size + 2, 2*g.Size + 1, impl.MaxNodes + 1, 64, math.MinInt, math.MaxInt}
}

func TestSpacesOfKinds(t *testing.T) {
	for _, g := range kindGraphs() {
		for _, kind := range allKinds {
			for k := range g.Size + 1 {
				thresholds, one := impl.ThresholdSpace(g, kind, k)
				exchanges, two := impl.ExchangeSpace(g, kind, k)
				slides, three := impl.KindSlides(g, kind, k)
				if !one || !two || !three || !impl.IsSpace(thresholds) || !impl.IsSpace(exchanges) || !impl.IsSpace(slides) {
					t.Fatal("not valid", g, kind, k, one, two, three)
				}
				if !sameSpace(exchanges, exchangeSpace(g, kind, k)) || !sameSpace(slides, kindSlides(g, kind, k)) {
					t.Fatal("exchanges and slides", g, kind, k, exchanges, slides)
				}
				if len(thresholds.States) <= 100 && !sameSpace(thresholds, thresholdSpace(g, kind, k)) {
					t.Fatal("thresholds", g, kind, k, thresholds)
				}
			}
			for _, k := range distantNumbers(g) {
				for _, c := range spaceCalls(g, kind, k) {
					if !c.fails() {
						t.Fatal("no number of nodes", g, kind, k, c.name)
					}
				}
			}
		}
	}
}

// TestSpacesOfKindsOnTheGreatestGraphs compares numbers that are known.
func TestSpacesOfKindsOnTheGreatestGraphs(t *testing.T) {
	free, full := impl.Graph{Size: 8}, complete(8)
	choices := []int{1, 8, 28, 56, 70, 56, 28, 8, 1}
	for k, choice := range choices {
		covers, _ := impl.ThresholdSpace(free, impl.KindCover, k)
		dominating, _ := impl.ThresholdSpace(full, impl.KindDominates, k)
		cliques, _ := impl.ThresholdSpace(full, impl.KindClique, 8-k)
		states, steps := 0, 0
		for n := range k + 1 {
			states += choices[n]
			steps += choices[n] * n
		}
		if len(covers.States) != states || len(covers.Steps) != steps || len(cliques.States) != states || len(cliques.Steps) != steps {
			t.Error("thresholds", k, len(covers.States), len(covers.Steps), len(cliques.States), len(cliques.Steps))
		}
		// The empty set does not dominate, and so its k or 8 steps are not there.
		if len(dominating.States) != states-1 || len(dominating.Steps) != steps-min(8*k, 8) {
			t.Error("dominating", k, len(dominating.States), len(dominating.Steps))
		}
		exchanges, _ := impl.ExchangeSpace(free, impl.KindCover, k)
		others, _ := impl.ExchangeSpace(full, impl.KindClique, k)
		still, _ := impl.KindSlides(free, impl.KindCover, k)
		slides, _ := impl.KindSlides(full, impl.KindClique, k)
		all := choice * k * (8 - k) / 2
		if len(exchanges.States) != choice || len(others.States) != choice || len(still.States) != choice || len(slides.States) != choice {
			t.Error("States", k, len(exchanges.States), len(others.States), len(still.States), len(slides.States))
		}
		if len(exchanges.Steps) != all || len(others.Steps) != all || len(still.Steps) != 0 || len(slides.Steps) != all {
			t.Error("steps", k, len(exchanges.Steps), len(others.Steps), len(still.Steps), len(slides.Steps))
		}
	}
}

// TestSpacesOfAllNodesAndOfNone: each Graph has the set of all nodes as a cover and as a
// dominating set, and the empty set as a clique.
func TestSpacesOfAllNodesAndOfNone(t *testing.T) {
	for _, g := range kindGraphs() {
		all := setOf(1<<g.Size - 1)
		for _, kind := range allKinds {
			for k, set := range map[int][]int{0: {}, g.Size: all} {
				want := [][]int{}
				if hasKind(g, kind, digitsFor(set)) {
					want = append(want, set)
				}
				exchanges, one := impl.ExchangeSpace(g, kind, k)
				slides, two := impl.KindSlides(g, kind, k)
				if !one || !two || !sameLists(exchanges.States, want) || !sameLists(slides.States, want) || len(exchanges.Steps)+len(slides.Steps) > 0 {
					t.Fatal("one set", g, kind, k, exchanges, slides)
				}
			}
		}
		empty, one := impl.ThresholdSpace(g, impl.KindCover, 0)
		none, two := impl.ThresholdSpace(g, impl.KindDominates, 0)
		greatest, three := impl.ThresholdSpace(g, impl.KindClique, g.Size)
		covers, dominating, cliques := [][]int{}, [][]int{}, [][]int{}
		if len(g.Edges) == 0 {
			covers = [][]int{{}}
		}
		if g.Size == 0 {
			dominating = [][]int{{}}
		}
		if len(g.Edges) == len(pairsOf(g.Size)) {
			cliques = [][]int{all}
		}
		if !one || !two || !three || !sameLists(empty.States, covers) || !sameLists(none.States, dominating) || !sameLists(greatest.States, cliques) {
			t.Fatal("at the limits", g, empty, none, greatest)
		}
	}
}

// thresholdTable returns the thresholds between any two sets: it puts ways together at the sets
// between them, and does not try numbers one after the other as the program does.
func thresholdTable(g impl.Graph, kind int, sets [][]int) [][]int {
	sign := 1 // the greatest number is the least one of the other sign
	if kind == impl.KindClique {
		sign = -1
	}
	table := make([][]int, len(sets))
	for i, a := range sets {
		for _, b := range sets {
			number := g.Size + 1
			if len(apart(a, b)) <= 1 {
				number = max(sign*len(a), sign*len(b))
			}
			table[i] = append(table[i], number)
		}
	}
	for c := range sets {
		for i := range sets {
			for j := range sets {
				table[i][j] = min(table[i][j], max(table[i][c], table[c][j]))
			}
		}
	}
	for i := range sets {
		for j := range sets {
			table[i][j] *= sign
		}
	}
	return table
}

// isFirstWay reports whether a walk is the first one of the shortest walks between two States:
// it goes on to the first State that is nearer to the end.
func isFirstWay(x impl.Space, table [][]int, i int, j int, walk [][]int) bool {
	if len(walk) != table[i][j]+1 || !slices.Equal(walk[0], x.States[i]) {
		return false
	}
	at := i
	for _, set := range walk[1:] {
		next := 0
		for !hasStep(x, at, next) || table[next][j] > table[at][j]-1 {
			next++
		}
		if !slices.Equal(set, x.States[next]) {
			return false
		}
		at = next
	}
	return at == j
}

// checkThresholds checks the thresholds between pairs of sets, and the ways.
func checkThresholds(t *testing.T, g impl.Graph, kind int, pairs func(n int) [][2]int) {
	t.Helper()
	sets := kindSets(g, kind, 0, g.Size)
	table := thresholdTable(g, kind, sets)
	spaces, distances := map[int]impl.Space{}, map[int][][]int{}
	for _, pair := range pairs(len(sets)) {
		a, b, want := sets[pair[0]], sets[pair[1]], table[pair[0]][pair[1]]
		if _, found := spaces[want]; !found {
			spaces[want] = thresholdSpace(g, kind, want)
			distances[want] = distanceTable(spaces[want])
		}
		k, one := impl.ThresholdOf(g, kind, a, b)
		way, two := impl.ThresholdWay(g, kind, a, b)
		if !one || !two || k != want {
			t.Fatal("threshold", g, kind, a, b, k, one, two, want)
		}
		x, i, j := spaces[k], indexOf(spaces[k].States, a), indexOf(spaces[k].States, b)
		if !isFirstWay(x, distances[k], i, j, way) {
			t.Fatal("way", g, kind, a, b, k, way)
		}
		if g.Size <= 4 && compareWalks(way, firstWalk(x, distances[k], i, j)) != 0 {
			t.Fatal("not the first one of all", g, kind, a, b, k, way)
		}
	}
}

func TestThresholds(t *testing.T) {
	random := rand.New(rand.NewSource(9))
	for _, g := range append(kindGraphs(), complete(5)) {
		for _, kind := range allKinds {
			// Not all of the greater Graphs: with many sets, the check takes long.
			if g.Size < 7 || len(kindSets(g, kind, 0, g.Size)) <= 24 {
				checkThresholds(t, g, kind, func(n int) [][2]int { return somePairs(n, random) })
			}
		}
	}
}

func TestThresholdsOnTheGreatestGraphs(t *testing.T) {
	random := rand.New(rand.NewSource(10))
	for _, g := range []impl.Graph{{Size: 8}, complete(8), rowOf(8), cycleOf(8), starOf(8), twoSides(4), {Size: 8, Edges: [][2]int{{0, 7}, {2, 5}}}} {
		for _, kind := range allKinds {
			checkThresholds(t, g, kind, func(n int) [][2]int {
				return append(somePairs(min(n, 3), random), [2]int{0, n - 1}, [2]int{n - 1, n / 2})
			})
		}
	}
}

func TestExchangeWays(t *testing.T) {
	random := rand.New(rand.NewSource(12))
	for _, kind := range allKinds {
		ways, none := 0, 0
		for _, g := range kindGraphs() {
			for k := range g.Size + 1 {
				x := exchangeSpace(g, kind, k)
				checkWalks(t, x, random, func(a []int, b []int) ([][]int, bool) {
					way, ok := impl.ExchangeWay(g, kind, a, b)
					if ok {
						ways++
					} else {
						none++
					}
					return way, ok
				})
			}
		}
		if ways < 1000 || none < 20 {
			t.Error("too few of a sort", kind, ways, none)
		}
	}
}

func TestExchangeWaysOfDifferentNumbersOfNodes(t *testing.T) {
	for _, g := range append(smallGraphs(), parted(), twoTriangles(), starOf(5)) {
		for _, kind := range allKinds {
			sets := kindSets(g, kind, 0, g.Size)
			for _, a := range sets {
				for _, b := range sets {
					if c := (aCall{"ExchangeWay", impl.ExchangeWay, []any{g, kind, a, b}}); len(a) != len(b) && !c.fails() {
						t.Fatal("different numbers", g, kind, a, b)
					}
				}
			}
		}
	}
}

func TestWaysOfExamples(t *testing.T) {
	const cover, clique, dominates = impl.KindCover, impl.KindClique, impl.KindDominates
	type lists = [][]int
	for _, c := range []struct {
		g          impl.Graph
		kind       int
		a, b       []int
		k          int
		threshold  lists
		exchange   lists
		isExchange bool
	}{
		{cycleOf(4), cover, []int{0, 2}, []int{1, 3}, 4, lists{{0, 2}, {0, 1, 2}, {0, 1, 2, 3}, {0, 1, 3}, {1, 3}}, nil, false},
		{starOf(4), cover, []int{0}, []int{1, 2, 3}, 4, lists{{0}, {0, 1}, {0, 1, 2}, {0, 1, 2, 3}, {1, 2, 3}}, nil, false},
		{complete(3), cover, []int{0, 1}, []int{1, 2}, 3, lists{{0, 1}, {0, 1, 2}, {1, 2}}, lists{{0, 1}, {1, 2}}, true},
		{rowOf(5), cover, []int{0, 2, 4}, []int{1, 2, 3}, 4, lists{{0, 2, 4}, {0, 1, 2, 4}, {1, 2, 4}, {1, 2, 3, 4}, {1, 2, 3}}, lists{{0, 2, 4}, {0, 2, 3}, {1, 2, 3}}, true},
		{parted(), clique, []int{0, 1}, []int{2, 3}, 0, lists{{0, 1}, {0}, {}, {2}, {2, 3}}, nil, false},
		{parted(), clique, []int{0}, []int{4}, 0, lists{{0}, {}, {4}}, lists{{0}, {4}}, true},
		{twoTriangles(), clique, []int{0, 1}, []int{2, 3}, 1, lists{{0, 1}, {0}, {0, 2}, {2}, {2, 3}}, lists{{0, 1}, {0, 2}, {2, 3}}, true},
		{twoTriangles(), clique, []int{0, 1, 2}, []int{2, 3, 4}, 1, lists{{0, 1, 2}, {0, 2}, {2}, {2, 3}, {2, 3, 4}}, nil, false},
		{complete(4), clique, []int{0, 1}, []int{2, 3}, 2, lists{{0, 1}, {0, 1, 2}, {0, 1, 2, 3}, {0, 2, 3}, {2, 3}}, lists{{0, 1}, {0, 2}, {2, 3}}, true},
		{starOf(4), dominates, []int{0}, []int{1, 2, 3}, 4, lists{{0}, {0, 1}, {0, 1, 2}, {0, 1, 2, 3}, {1, 2, 3}}, nil, false},
		{cycleOf(4), dominates, []int{0, 1}, []int{2, 3}, 3, lists{{0, 1}, {0, 1, 2}, {0, 2}, {0, 2, 3}, {2, 3}}, lists{{0, 1}, {0, 2}, {2, 3}}, true},
		{complete(8), dominates, []int{0}, []int{7}, 2, lists{{0}, {0, 7}, {7}}, lists{{0}, {7}}, true},
		{impl.Graph{Size: 8}, cover, nil, []int{6, 7}, 2, lists{{}, {6}, {6, 7}}, nil, false},
		{impl.Graph{Size: 8}, clique, []int{0}, []int{7}, 0, lists{{0}, {}, {7}}, lists{{0}, {7}}, true},
		{impl.Graph{Size: 8}, cover, []int{7}, []int{0}, 1, lists{{7}, {}, {0}}, lists{{7}, {0}}, true},
	} {
		k, one := impl.ThresholdOf(c.g, c.kind, c.a, c.b)
		way, two := impl.ThresholdWay(c.g, c.kind, c.a, c.b)
		exchange, is := impl.ExchangeWay(c.g, c.kind, c.a, c.b)
		if !one || !two || k != c.k || !sameLists(way, c.threshold) {
			t.Error("threshold", c, k, way)
		}
		if is != c.isExchange || !sameLists(exchange, c.exchange) {
			t.Error("exchange", c, exchange, is)
		}
		back, ok := impl.ThresholdOf(c.g, c.kind, c.b, c.a)
		other, fine := impl.ThresholdWay(c.g, c.kind, c.b, c.a)
		if !ok || !fine || back != c.k || len(other) != len(c.threshold) {
			t.Error("and back", c, back, other)
		}
	}
}

// TestWaysFromASetToItself: the threshold is the number of nodes of the set.
func TestWaysFromASetToItself(t *testing.T) {
	for _, g := range append(smallGraphs(), parted(), twoTriangles(), rowOf(8), twoSides(3)) {
		for _, kind := range allKinds {
			for _, set := range kindSets(g, kind, 0, g.Size) {
				k, one := impl.ThresholdOf(g, kind, set, slices.Clone(set))
				way, two := impl.ThresholdWay(g, kind, set, set)
				exchange, three := impl.ExchangeWay(g, kind, set, set)
				if !one || !two || !three || k != len(set) || !sameLists(way, [][]int{set}) || !sameLists(exchange, [][]int{set}) {
					t.Fatal("the set alone", g, kind, set, k, way, exchange)
				}
			}
		}
	}
}

// fewPairs is for functions that look for a threshold, which takes long where there are many sets.
func fewPairs(n int, random *rand.Rand) [][2]int {
	pairs := somePairs(n, random)
	if n > 8 {
		random.Shuffle(len(pairs), func(i, j int) { pairs[i], pairs[j] = pairs[j], pairs[i] })
		pairs = pairs[:10]
	}
	return pairs
}

// oneMore returns the number of the threshold space that is held against exchanges of k nodes.
func oneMore(kind int, k int) int {
	if kind == impl.KindClique {
		return k - 1
	}
	return k + 1
}

func isThresholdWithin(kind int, k int, bound int) bool {
	if kind == impl.KindClique {
		return k >= bound
	}
	return k <= bound
}

func TestExchangesHaveAWayExactlyIfThresholdsWithOneMoreNodeDo(t *testing.T) {
	random := rand.New(rand.NewSource(13))
	isGreat := func(g impl.Graph) bool { return g.Size > 6 }
	graphs := append(slices.DeleteFunc(graphsOf(4), isGreat), parted(), twoTriangles(), cycleOf(5), cycleOf(6), rowOf(8), twoSides(4), twoBlocks(), cube())
	for _, kind := range allKinds {
		ways, none, alone := 0, 0, 0
		for _, g := range graphs {
			for k := range g.Size + 1 {
				bound := oneMore(kind, k)
				sets := kindSets(g, kind, k, k)
				if bound < 0 || bound > g.Size {
					alone += len(sets)
					continue
				}
				for _, pair := range fewPairs(len(sets), random) {
					a, b := sets[pair[0]], sets[pair[1]]
					exchange, there := impl.ExchangeWay(g, kind, a, b)
					threshold, ok := impl.ThresholdOf(g, kind, a, b)
					if !ok || there != isThresholdWithin(kind, threshold, bound) {
						t.Fatal("exchanges and thresholds", g, kind, a, b, exchange, threshold)
					}
					if there {
						ways++
					} else {
						none++
					}
				}
			}
		}
		if ways < 1000 || none < 15 || alone < 50 {
			t.Error("too few of a sort", kind, ways, none, alone)
		}
	}
}

// TestPartsOfExchangesAreThoseOfThresholds looks at the spaces, for all pairs of sets at once.
func TestPartsOfExchangesAreThoseOfThresholds(t *testing.T) {
	for _, g := range append(graphsOf(5)[:1100], greatGraphs()...) {
		for _, kind := range allKinds {
			for k := range g.Size + 1 {
				bound := oneMore(kind, k)
				if bound < 0 || bound > g.Size {
					continue
				}
				exchanges, _ := impl.ExchangeSpace(g, kind, k)
				thresholds, _ := impl.ThresholdSpace(g, kind, bound)
				parts, one := impl.PartLabels(exchanges)
				others, two := impl.PartLabels(thresholds)
				if !one || !two {
					t.Fatal("no labels", g, kind, k)
				}
				pairing := map[int]int{}
				taken := map[int]bool{}
				for place, set := range exchanges.States {
					at, _ := impl.PlaceOf(thresholds, set)
					label, found := pairing[parts[place]]
					if found && label != others[at] || !found && taken[others[at]] {
						t.Fatal("parts", g, kind, k, exchanges, thresholds)
					}
					pairing[parts[place]], taken[others[at]] = others[at], true
				}
			}
		}
	}
}

// othersOf returns the OtherNodes of each set.
func othersOf(t *testing.T, g impl.Graph, sets [][]int) [][]int {
	t.Helper()
	others := [][]int{}
	for _, set := range sets {
		other, ok := impl.OtherNodes(g, set)
		if !ok {
			t.Fatal("others", g, set)
		}
		others = append(others, other)
	}
	return others
}

// isWalk reports whether all sets are States, and each but the first one is a step behind the
// one before it.
func isWalk(x impl.Space, sets [][]int) bool {
	places := []int{}
	for _, set := range sets {
		place, ok := impl.PlaceOf(x, set)
		if !ok {
			return false
		}
		places = append(places, place)
	}
	is, ok := impl.IsWay(x, places)
	return is && ok
}

func TestOtherNodesOfTheWayOfACliqueAreAWayOfCovers(t *testing.T) {
	random := rand.New(rand.NewSource(14))
	for _, g := range append(kindGraphs(), complete(5)) {
		h, _ := impl.CliqueGraph(g)
		cliques := kindSets(g, impl.KindClique, 0, g.Size)
		if len(cliques) > 64 {
			continue
		}
		for _, pair := range append(fewPairs(len(cliques), random), fewPairs(len(cliques), random)...) {
			sets := [][]int{cliques[pair[0]], cliques[pair[1]]}
			ends := othersOf(t, g, sets)
			way, _ := impl.ThresholdWay(g, impl.KindClique, sets[0], sets[1])
			k, one := impl.ThresholdOf(g, impl.KindClique, sets[0], sets[1])
			covers, two := impl.ThresholdOf(h, impl.KindCover, ends[0], ends[1])
			x, three := impl.ThresholdSpace(h, impl.KindCover, g.Size-k)
			if !one || !two || !three || covers != g.Size-k || !isWalk(x, othersOf(t, g, way)) {
				t.Fatal("thresholds", g, sets, k, covers, way)
			}
			exchange, there := impl.ExchangeWay(g, impl.KindClique, sets[0], sets[1])
			other, is := impl.ExchangeWay(h, impl.KindCover, ends[0], ends[1])
			if there != is || len(exchange) != len(other) {
				t.Fatal("exchanges", g, sets, exchange, other)
			}
			y, _ := impl.ExchangeSpace(h, impl.KindCover, len(ends[0]))
			if there && !isWalk(y, othersOf(t, g, exchange)) {
				t.Fatal("a way of covers", g, sets, exchange)
			}
		}
	}
}
