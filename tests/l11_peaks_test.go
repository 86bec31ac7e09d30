package tests

import (
	"cmp"
	"math"
	"math/rand"
	"slices"
	"testing"

	"loop.example/g01128/impl"
)

func peakOf(heights []int, way []int) int {
	peak := heights[way[0]]
	for _, place := range way {
		peak = max(peak, heights[place])
	}
	return peak
}

// peakTable returns the least peaks of ways between each two places, -1 where there is none.
func peakTable(x impl.Space, heights []int) [][]int {
	highest := func(a int, b int) int { return max(a, b) }
	return tableThrough(x, func(place int) int { return heights[place] }, func(a int, b int) int { return max(heights[a], heights[b]) }, highest)
}

// placesUpTo returns the places with at most a height.
func placesUpTo(heights []int, level int) []int {
	return slices.DeleteFunc(numbersBelow(len(heights)), func(place int) bool { return heights[place] > level })
}

func checkLow(t *testing.T, x impl.Space, heights []int, i int, j int, want []int) {
	t.Helper()
	peak, one := impl.LeastPeak(x, heights, i, j)
	way, two := impl.LowWay(x, heights, i, j)
	if one != (want != nil) || two != one || !slices.Equal(way, want) {
		t.Fatal("low way", x, heights, i, j, peak, one, way, two, want)
	}
	if !one {
		if peak != 0 {
			t.Fatal("a peak without a way", x, heights, i, j, peak)
		}
		return
	}
	if most, ok := impl.PeakOf(x, heights, way); !ok || most != peak || peak != peakOf(heights, want) {
		t.Fatal("peak", x, heights, i, j, way, peak, most)
	}
}

func TestLowWaysOfSmallSpaces(t *testing.T) {
	random := rand.New(rand.NewSource(121))
	for _, x := range smallSpaces(5) {
		for _, heights := range someLoads(x, len(x.States), random) {
			for i := range x.States {
				for j := range x.States {
					want := bestWay(simpleWays(x, i, j), func(way []int) int { return peakOf(heights, way) })
					checkLow(t, x, heights, i, j, want)
				}
			}
		}
	}
}

// lowWay finds the first one of the shortest ways in the level of the least peak.
func lowWay(x impl.Space, heights []int, peaks [][]int, i int, j int) []int {
	peak := peaks[i][j]
	if peak < 0 {
		return nil
	}
	places := placesUpTo(heights, peak)
	level := inducedSpace(x, places)
	way := shortestWays(level, distanceTable(level), slices.Index(places, i), slices.Index(places, j))[0]
	for k, place := range way {
		way[k] = places[place]
	}
	return way
}

func TestLowWaysOfGreaterSpaces(t *testing.T) {
	random := rand.New(rand.NewSource(122))
	for _, x := range randomSpaces(120) {
		for _, heights := range someLoads(x, len(x.States), random) {
			peaks := peakTable(x, heights)
			for range 8 {
				i, j := random.Intn(len(x.States)), random.Intn(len(x.States))
				checkLow(t, x, heights, i, j, lowWay(x, heights, peaks, i, j))
			}
		}
	}
}

func TestLeastPeaksOfTheGreatestSpaces(t *testing.T) {
	random := rand.New(rand.NewSource(123))
	for _, x := range append(limitSpaces()[8:], circle(impl.MaxStates)) {
		for _, heights := range someLoads(x, len(x.States), random)[:2] {
			peaks := peakTable(x, heights)
			for range 20 {
				i, j := random.Intn(len(x.States)), random.Intn(len(x.States))
				peak, one := impl.LeastPeak(x, heights, i, j)
				way, two := impl.LowWay(x, heights, i, j)
				if one != (peaks[i][j] >= 0) || two != one || one && (peak != peaks[i][j] || !isWay(x, way) || peakOf(heights, way) != peak || way[0] != i || way[len(way)-1] != j) {
					t.Fatal("peak", len(x.Steps), i, j, peak, peaks[i][j], way)
				}
			}
		}
	}
}

func TestKnownLowWays(t *testing.T) {
	// From 0 to 4 over 1, over 2 and 3, over 5, or straight from 0 to 6.
	x := impl.Space{States: lineStates(7), Steps: [][2]int{{0, 1}, {0, 2}, {0, 5}, {0, 6}, {1, 4}, {2, 3}, {3, 4}, {4, 5}}}
	for _, c := range []struct {
		heights []int
		way     []int
		peak    int
	}{
		{[]int{1, 7, 2, 2, 1, 9, 0}, []int{0, 2, 3, 4}, 2}, {[]int{1, 7, 2, 7, 1, 9, 0}, []int{0, 1, 4}, 7}, {[]int{1, 7, 8, 2, 1, 3, 0}, []int{0, 5, 4}, 3},
		{[]int{5, 4, 0, 0, 0, 3, 0}, []int{0, 1, 4}, 5}, {[]int{0, 4, 0, 0, 5, 3, 0}, []int{0, 1, 4}, 5}, {[]int{5, 6, 0, 0, 0, 3, 0}, []int{0, 5, 4}, 5}, // an end is the peak
		{[]int{0, 0, 0, 0, 0, 0, 0}, []int{0, 1, 4}, 0}, {[]int{0, 1, 0, 0, 0, 1, 0}, []int{0, 2, 3, 4}, 0}, {[]int{3, 3, 3, 3, 3, 3, 3}, []int{0, 1, 4}, 3},
		{[]int{0, 999, 999, 0, 0, 999, 0}, []int{0, 1, 4}, 999}, {[]int{0, 999, 998, 0, 0, 999, 0}, []int{0, 2, 3, 4}, 998}, {slices.Repeat([]int{impl.MaxLoad}, 7), []int{0, 1, 4}, 999},
		{[]int{4, 9, 9, 9, 9, 9, 2}, []int{0}, 4}, {[]int{4, 9, 9, 9, 9, 9, 2}, []int{0, 6}, 4}, {[]int{4, 9, 9, 9, 9, 9, 6}, []int{0, 6}, 6},
	} {
		last := c.way[len(c.way)-1]
		checkLow(t, x, c.heights, 0, last, c.way)
		if peak, ok := impl.LeastPeak(x, c.heights, last, 0); !ok || peak != c.peak {
			t.Error("peak back", c, peak, ok)
		}
	}
	// A place on the way can be reached lower, but only by more steps: the end is as high as the
	// straight way.
	y := impl.Space{States: lineStates(5), Steps: [][2]int{{0, 1}, {0, 2}, {1, 4}, {2, 3}, {3, 4}}}
	checkLow(t, y, []int{0, 5, 0, 0, 0}, 0, 4, []int{0, 2, 3, 4})
	y.States, y.Steps = lineStates(6), append(y.Steps, [2]int{4, 5})
	checkLow(t, y, []int{0, 5, 0, 0, 0, 5}, 0, 5, []int{0, 1, 4, 5})
	checkLow(t, y, []int{0, 5, 0, 0, 0, 4}, 0, 5, []int{0, 2, 3, 4, 5})
	checkLow(t, y, []int{0, 5, 0, 0, 0, 5}, 5, 0, []int{5, 4, 1, 0})
}

func TestPeakOf(t *testing.T) {
	random := rand.New(rand.NewSource(124))
	for _, x := range smallSpaces(4) {
		for _, heights := range loadsFor(len(x.States), random) {
			everyWay(x, 5, func(way []int) {
				if peak, ok := impl.PeakOf(x, heights, way); !ok || peak != peakOf(heights, way) {
					t.Fatal("peak", x, heights, way, peak, ok)
				}
			})
		}
	}
}

func TestLevelSpace(t *testing.T) {
	random := rand.New(rand.NewSource(125))
	for _, x := range slices.Concat(smallSpaces(4), randomSpaces(30), limitSpaces()) {
		for _, heights := range someLoads(x, len(x.States), random) {
			for _, level := range []int{0, 1, 2, 5, 50, random.Intn(impl.MaxLoad), impl.MaxLoad - 1, impl.MaxLoad} {
				want := placesUpTo(heights, level)
				y, one := impl.LevelSpace(x, heights, level)
				if !one || !sameSpace(y, inducedSpace(x, want)) {
					t.Fatal("level space", x, heights, level, y, one)
				}
				if induced, two := impl.InducedSpace(x, want); !two || !sameSpace(y, induced) {
					t.Fatal("induced space", x, heights, level, induced)
				}
			}
			for _, level := range []int{-1, impl.MaxLoad + 1, -impl.MaxLoad, math.MinInt, math.MaxInt} {
				failAll(t, []aCall{{"LevelSpace", impl.LevelSpace, []any{x, heights, level}}}, "no level")
			}
		}
	}
}

// partsAt returns the number of parts of the States with at most a height, as an independent
// calculation tells it.
func partsAt(x impl.Space, heights []int, level int) int {
	return len(partsOf(distanceTable(inducedSpace(x, placesUpTo(heights, level)))))
}

// mergesOf returns what the document says of MergeHeights, level by level.
func mergesOf(x impl.Space, heights []int) []int {
	merges := []int{}
	for _, h := range slices.Compact(slices.Sorted(slices.Values(heights))) {
		count := -partsAt(x, heights, h)
		if h > 0 {
			count += partsAt(x, heights, h-1)
		}
		for _, height := range heights {
			if height == h {
				count++
			}
		}
		merges = append(merges, slices.Repeat([]int{h}, count)...)
	}
	return merges
}

func TestMergeHeights(t *testing.T) {
	random := rand.New(rand.NewSource(126))
	for _, x := range slices.Concat(smallSpaces(5), randomSpaces(60)) {
		parts := len(partsOf(distanceTable(x)))
		for _, heights := range someLoads(x, len(x.States), random) {
			merges, ok := impl.MergeHeights(x, heights)
			if !ok || !slices.Equal(merges, mergesOf(x, heights)) {
				t.Fatal("merges", x, heights, merges, ok)
			}
			if len(merges) != len(x.States)-parts {
				t.Fatal("number of merges", x, heights, merges, parts)
			}
		}
	}
}

// TestMergeHeightsCountTheParts of each level: each merge up to it makes them less by one.
func TestMergeHeightsCountTheParts(t *testing.T) {
	random := rand.New(rand.NewSource(127))
	for _, x := range randomSpaces(40) {
		heights := randomLoads(len(x.States), 6, random)
		merges, _ := impl.MergeHeights(x, heights)
		for level := range 8 {
			up := 0
			for _, height := range merges {
				if height <= level {
					up++
				}
			}
			y, _ := impl.LevelSpace(x, heights, level)
			if parts, _ := impl.PartsOf(y); len(y.States)-up != len(parts) {
				t.Fatal("parts of a level", x, heights, level, merges, len(parts))
			}
		}
	}
}

func TestKnownMergeHeights(t *testing.T) {
	line := limitSpaces()[9]
	for _, c := range []struct {
		x       impl.Space
		heights []int
		merges  []int
	}{
		{impl.Space{}, nil, nil}, {impl.Space{States: [][]int{{}}}, []int{999}, nil}, {impl.Space{States: lineStates(3)}, []int{0, 5, 0}, nil},
		{withSteps(3, 3), []int{0, 0, 0}, []int{0, 0}}, {withSteps(3, 3), []int{0, 1, 999}, []int{1, 999}}, {withSteps(3, 3), []int{999, 0, 999}, []int{999, 999}},
		{withSteps(3, 3), []int{4, 4, 4}, []int{4, 4}}, {withSteps(3, 2), []int{7, 1, 2}, []int{7, 7}}, {withSteps(3, 2), []int{1, 7, 2}, []int{2, 7}},
		{circle(6), []int{0, 3, 0, 3, 0, 3}, []int{3, 3, 3, 3, 3}}, {circle(6), []int{0, 3, 0, 2, 0, 1}, []int{1, 1, 2, 2, 3}}, {circle(4), []int{1, 0, 0, 1}, []int{0, 1, 1}},
		{line, make([]int, impl.MaxStates), make([]int, impl.MaxStates-1)}, {line, numbersBelow(impl.MaxStates), numbersBelow(impl.MaxStates)[1:]},
		{line, reversed(numbersBelow(impl.MaxStates)), numbersBelow(impl.MaxStates)[1:]}, {line, slices.Repeat([]int{impl.MaxLoad, 0}, 150), slices.Repeat([]int{impl.MaxLoad}, 299)},
	} {
		if merges, ok := impl.MergeHeights(c.x, c.heights); !ok || !slices.Equal(merges, c.merges) {
			t.Error("merges", c.heights, merges, ok)
		}
	}
}

// stepsAt returns the Space that has just those steps.
func stepsAt(x impl.Space, places []int) impl.Space {
	y := impl.Space{States: x.States}
	for _, k := range slices.Sorted(slices.Values(places)) {
		y.Steps = append(y.Steps, x.Steps[k])
	}
	return y
}

// cheapTree takes the steps as the document says, and asks a table of distances each time.
func cheapTree(x impl.Space, weights []int) []int {
	order := numbersBelow(len(x.Steps))
	slices.SortFunc(order, func(a int, b int) int { return cmp.Or(weights[a]-weights[b], a-b) })
	taken := []int{}
	for _, k := range order {
		table := distanceTable(stepsAt(x, taken))
		if table[x.Steps[k][0]][x.Steps[k][1]] < 0 {
			taken = append(taken, k)
		}
	}
	return slices.Sorted(slices.Values(taken))
}

func TestCheapTree(t *testing.T) {
	random := rand.New(rand.NewSource(128))
	for _, x := range slices.Concat(smallSpaces(5), randomSpaces(25)) {
		for _, weights := range someLoads(x, len(x.Steps), random) {
			if tree, ok := impl.CheapTree(x, weights); !ok || !slices.Equal(tree, cheapTree(x, weights)) {
				t.Fatal("tree", x, weights, tree, ok)
			}
		}
	}
}

// TestCheapTreesHaveTheLeastSum of all lists of steps that connect each part.
func TestCheapTreesHaveTheLeastSum(t *testing.T) {
	random := rand.New(rand.NewSource(129))
	for _, x := range smallSpaces(4) {
		parts := partsOf(distanceTable(x))
		for _, weights := range loadsFor(len(x.Steps), random) {
			tree, _ := impl.CheapTree(x, weights)
			if len(tree) != len(x.States)-len(parts) || !sameLists(partsOf(distanceTable(stepsAt(x, tree))), parts) {
				t.Fatal("does not connect", x, weights, tree)
			}
			for digits := range 1 << len(x.Steps) {
				places := setOf(digits)
				if weightOf(places, weights) < weightOf(tree, weights) && sameLists(partsOf(distanceTable(stepsAt(x, places))), parts) {
					t.Fatal("a less sum", x, weights, tree, places)
				}
			}
		}
	}
}

// TestCheapTreesAreLightTrees of Graphs (chapter 7) whose nodes are all connected.
func TestCheapTreesAreLightTrees(t *testing.T) {
	random := rand.New(rand.NewSource(130))
	for _, g := range connectedGraphs() {
		weights := randomWeights(g, 9, random)
		tree, one := impl.CheapTree(nodesAsStates(g), weights)
		light, two := impl.LightTree(g, weights)
		if !one || !two || !slices.Equal(tree, light) {
			t.Fatal("tree", g, weights, tree, light)
		}
	}
}

func TestKnownCheapTrees(t *testing.T) {
	great := limitSpaces()[10]
	several := impl.Space{States: lineStates(7), Steps: [][2]int{{0, 4}, {0, 6}, {1, 2}, {1, 3}, {2, 3}, {4, 6}}}
	for _, c := range []struct {
		x       impl.Space
		weights []int
		tree    []int
	}{
		{impl.Space{}, nil, nil}, {impl.Space{States: [][]int{{}}}, nil, nil}, {impl.Space{States: lineStates(impl.MaxStates)}, nil, nil},
		{withSteps(3, 3), []int{0, 0, 0}, []int{0, 1}}, {withSteps(3, 3), []int{5, 5, 5}, []int{0, 1}}, {withSteps(3, 3), []int{1, 0, 0}, []int{1, 2}}, {withSteps(3, 3), []int{1, 1, 0}, []int{0, 2}}, {withSteps(3, 3), []int{999, 998, 999}, []int{0, 1}},
		{several, []int{1, 2, 3, 3, 3, 1}, []int{0, 2, 3, 5}}, {several, []int{2, 2, 999, 0, 0, 2}, []int{0, 1, 3, 4}}, {several, []int{0, 0, 0, 0, 0, 0}, []int{0, 1, 2, 3}},
		{great, make([]int, impl.MaxSteps), numbersBelow(impl.MaxStates - 1)}, {limitSpaces()[9], make([]int, impl.MaxStates-1), numbersBelow(impl.MaxStates - 1)},
	} {
		if tree, ok := impl.CheapTree(c.x, c.weights); !ok || !slices.Equal(tree, c.tree) {
			t.Error("tree", c.weights[:min(len(c.weights), 9)], tree, ok)
		}
	}
}
