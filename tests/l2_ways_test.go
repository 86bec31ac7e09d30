package tests

import (
	"math"
	"slices"
	"testing"

	"loop.example/g01128/impl"
)

func waySpaces() []impl.Space {
	return slices.Concat(smallSpaces(5), randomSpaces(200))
}

// shortestWays returns all shortest ways from i to j in lexicographic order, none if there is
// no way.
func shortestWays(x impl.Space, table [][]int, i int, j int) [][]int {
	if i == j {
		return [][]int{{i}}
	}
	ways := [][]int{}
	for next := range x.States {
		if table[i][next] == 1 && table[next][j] >= 0 && table[next][j] == table[i][j]-1 {
			for _, rest := range shortestWays(x, table, next, j) {
				ways = append(ways, append([]int{i}, rest...))
			}
		}
	}
	return ways
}

func TestDistancesFrom(t *testing.T) {
	for _, x := range waySpaces() {
		table := distanceTable(x)
		for i := range x.States {
			if distances, ok := impl.DistancesFrom(x, i); !ok || !slices.Equal(distances, table[i]) {
				t.Fatal("distances", x, i, distances, ok)
			}
		}
	}
}

// TestDistancesFromAreAPotential holds for several parts too, as -1 is told of whole parts.
func TestDistancesFromAreAPotential(t *testing.T) {
	for _, x := range slices.Concat(waySpaces(), limitSpaces()) {
		for i := range min(len(x.States), 8) {
			distances, _ := impl.DistancesFrom(x, i)
			if is, ok := impl.IsPotential(x, distances); !is || !ok {
				t.Fatal("no potential", x, i, distances)
			}
			for j, distance := range distances {
				bound, ok := impl.PotentialBound(x, distances, i, j)
				if !ok || distance >= 0 && bound != distance {
					t.Fatal("bound", x, i, j, bound, ok)
				}
			}
		}
	}
}

func TestFirstWayAndCountShortest(t *testing.T) {
	for _, x := range waySpaces() {
		table := distanceTable(x)
		for i := range x.States {
			for j := range x.States {
				ways := shortestWays(x, table, i, j)
				way, ok := impl.FirstWay(x, i, j)
				count, fine := impl.CountShortest(x, i, j)
				if len(ways) == 0 {
					if ok || fine || len(way) != 0 || count != 0 {
						t.Fatal("no way", x, i, j, way, count)
					}
					continue
				}
				if !ok || !fine || !slices.Equal(way, ways[0]) || count != len(ways) {
					t.Fatal("ways", x, i, j, way, count, ways)
				}
			}
		}
	}
}

func TestFirstWayIsTheFirstOneOfSeveral(t *testing.T) {
	// Both halves of the way have several middles, and the first place of one is in the other.
	x := impl.Space{States: lineStates(7), Steps: [][2]int{{0, 3}, {0, 5}, {1, 3}, {1, 5}, {1, 6}, {2, 4}, {2, 6}, {4, 5}}}
	for _, want := range [][]int{{0, 3, 1, 6}, {6, 1, 3, 0}, {0, 5, 4, 2}, {2, 4, 5, 0}, {3, 0, 5}, {4}} {
		if way, ok := impl.FirstWay(x, want[0], want[len(want)-1]); !ok || !slices.Equal(way, want) {
			t.Error("first way", want, way, ok)
		}
	}
}

// everyList visits all lists of at most most numbers in from..to.
func everyList(most int, from int, to int, visit func(list []int)) {
	var extend func(list []int)
	extend = func(list []int) {
		visit(list)
		if len(list) == most {
			return
		}
		for number := from; number <= to; number++ {
			extend(append(slices.Clone(list), number))
		}
	}
	extend([]int{})
}

func isWay(x impl.Space, list []int) bool {
	for k, place := range list {
		if place < 0 || place >= len(x.States) || k > 0 && !hasStep(x, list[k-1], place) {
			return false
		}
	}
	return len(list) > 0
}

func TestIsWay(t *testing.T) {
	for _, x := range slices.Concat(smallSpaces(4), randomSpaces(3)) {
		everyList(4, -1, min(len(x.States), 6), func(list []int) {
			if is, ok := impl.IsWay(x, list); !ok || is != isWay(x, list) {
				t.Fatal("way", x, list, is, ok)
			}
		})
	}
}

func TestIsWayOfOtherLists(t *testing.T) {
	x := impl.Space{States: lineStates(3), Steps: [][2]int{{0, 1}, {1, 2}}}
	for _, list := range [][]int{
		nil, {}, {-1}, {3}, {0, 0}, {1, 1}, {0, 1, 1}, {0, 2}, {0, 1, 3}, {0, -1}, {math.MinInt}, {math.MaxInt},
		{1, math.MinInt}, {1, math.MaxInt}, {math.MinInt, 1}, {math.MinInt, math.MaxInt}, {3, 4}, make([]int, 10000),
	} {
		if is, ok := impl.IsWay(x, list); is || !ok {
			t.Error("no way", list, is, ok)
		}
	}
	for _, list := range [][]int{{0}, {1}, {2}, {0, 1}, {1, 0}, {0, 1, 0}, {2, 1, 0, 1, 2}, slices.Repeat([]int{1, 2}, 10000)} {
		if is, ok := impl.IsWay(x, list); !is || !ok {
			t.Error("way", list[:min(len(list), 5)], is, ok)
		}
	}
}

// layered returns a Space whose first State has steps to all of a first layer, and so on up to
// a last State: the product of the numbers of the layers is the number of shortest ways. Beside
// it, there are single ways of the same length, as many as extra.
func layered(layers []int, extra int) (impl.Space, int) {
	before, n := []int{0}, 1
	steps := [][2]int{}
	for _, size := range append(slices.Clone(layers), 1) {
		layer := []int{}
		for range size {
			for _, place := range before {
				steps = append(steps, [2]int{place, n})
			}
			layer = append(layer, n)
			n++
		}
		before = layer
	}
	end := n - 1
	for range extra {
		last := 0
		for range layers {
			steps = append(steps, [2]int{last, n})
			last = n
			n++
		}
		steps = append(steps, [2]int{end, last})
	}
	slices.SortFunc(steps, func(a, b [2]int) int { return slices.Compare(a[:], b[:]) })
	return impl.Space{States: lineStates(n), Steps: steps}, end
}

func TestCountShortestAtMaxValue(t *testing.T) {
	for _, c := range []struct {
		layers []int
		extra  int
		want   int
	}{
		{[]int{3, 3, 3, 7, 11, 13, 37}, 0, 999999},
		{[]int{3, 3, 3, 7, 11, 13, 37}, 1, impl.MaxValue},
		{[]int{3, 3, 3, 7, 11, 13, 37}, 2, impl.MaxValue},
		{[]int{10, 10, 10, 10, 10, 10}, 0, impl.MaxValue},
		{[]int{10, 10, 10, 10, 10, 10}, 1, impl.MaxValue},
		{[]int{10, 10, 10, 10, 10, 11}, 0, impl.MaxValue},
		{[]int{10, 10, 10, 10, 10, 9}, 0, 900000},
		{[]int{10, 10, 10, 10, 10, 9}, 7, 900007},
		{slices.Repeat([]int{2}, 63), 0, impl.MaxValue}, // as an int, 2^63 is less than 0
		{slices.Repeat([]int{2}, 64), 0, impl.MaxValue},
		{slices.Repeat([]int{2}, 149), 0, impl.MaxValue},
		{slices.Repeat([]int{4}, 74), 0, impl.MaxValue},
		{slices.Repeat([]int{1}, 290), 0, 1},
		{[]int{298}, 0, 298},
	} {
		x, end := layered(c.layers, c.extra)
		if !impl.IsSpace(x) {
			t.Fatal("not valid", c)
		}
		forth, one := impl.CountShortest(x, 0, end)
		back, two := impl.CountShortest(x, end, 0)
		if !one || !two || forth != c.want || back != c.want {
			t.Error("count", c, forth, back)
		}
	}
}

func TestPartsOfAndPartLabels(t *testing.T) {
	for _, x := range waySpaces() {
		want := partsOf(distanceTable(x))
		if parts, ok := impl.PartsOf(x); !ok || !sameLists(parts, want) {
			t.Fatal("parts", x, parts, ok)
		}
		labels, ok := impl.PartLabels(x)
		if !ok || len(labels) != len(x.States) {
			t.Fatal("labels", x, labels, ok)
		}
		for index, part := range want {
			for _, place := range part {
				if labels[place] != index {
					t.Fatal("label", x, labels, place)
				}
			}
		}
	}
}

// TestThereIsAWayExactlyIfTheLabelsAreTheSame also looks at labels that are not those of parts:
// if they are kept, different ones prove that there is no way.
func TestThereIsAWayExactlyIfTheLabelsAreTheSame(t *testing.T) {
	for _, x := range waySpaces() {
		labels, _ := impl.PartLabels(x)
		if kept, ok := impl.AreKept(x, labels); !kept || !ok {
			t.Fatal("not kept", x, labels)
		}
		for i := range x.States {
			for j := range x.States {
				way, ok := impl.FirstWay(x, i, j)
				if ok != (labels[i] == labels[j]) {
					t.Fatal("way and labels", x, i, j, ok)
				}
				if is, fine := impl.IsWay(x, way); !fine || is != ok {
					t.Fatal("first way", x, i, j, way)
				}
			}
		}
	}
	for _, x := range smallSpaces(4) {
		table := distanceTable(x)
		everyList(4, 0, 2, func(labels []int) {
			kept, ok := impl.AreKept(x, labels)
			for i := range labels {
				for j := range labels {
					if ok && kept && labels[i] != labels[j] && table[i][j] >= 0 {
						t.Fatal("a way between different labels", x, labels)
					}
				}
			}
		})
	}
}

func TestDiameterOf(t *testing.T) {
	for _, x := range waySpaces() {
		want := 0
		for _, distances := range distanceTable(x) {
			want = max(want, slices.Max(distances))
		}
		if diameter, ok := impl.DiameterOf(x); !ok || diameter != want {
			t.Fatal("diameter", x, diameter, ok)
		}
	}
}

func TestAreKeptAndIsPotential(t *testing.T) {
	for _, x := range smallSpaces(4) {
		everyList(4, -1, 2, func(values []int) {
			kept, ok := impl.AreKept(x, values)
			is, fine := impl.IsPotential(x, values)
			if len(values) != len(x.States) {
				if kept || ok || is || fine {
					t.Fatal("length", x, values)
				}
				return
			}
			wantKept, want := true, true
			for _, step := range x.Steps {
				a, b := values[step[0]], values[step[1]]
				wantKept = wantKept && a == b
				want = want && (a == b || a == b+1 || b == a+1)
			}
			if !ok || !fine || kept != wantKept || is != want {
				t.Fatal("labels", x, values, kept, is)
			}
			checkBounds(t, x, values, want)
		})
	}
}

func checkBounds(t *testing.T, x impl.Space, values []int, is bool) {
	t.Helper()
	for i := range x.States {
		for j := range x.States {
			bound, ok := impl.PotentialBound(x, values, i, j)
			if ok != is || !ok && bound != 0 || ok && bound != max(values[i]-values[j], values[j]-values[i]) {
				t.Fatal("bound", x, values, i, j, bound, ok)
			}
		}
	}
}

// TestPotentialsAreBounds: no way is shorter than a potential tells.
func TestPotentialsAreBounds(t *testing.T) {
	for _, x := range smallSpaces(4) {
		table := distanceTable(x)
		everyList(4, 0, 3, func(values []int) {
			for i := range values {
				for j := range values {
					bound, ok := impl.PotentialBound(x, values, min(i, len(x.States)-1), min(j, len(x.States)-1))
					if ok && table[i][j] >= 0 && bound > table[i][j] {
						t.Fatal("bound", x, values, i, j, bound)
					}
				}
			}
		})
	}
}

func TestLimitsOfLabels(t *testing.T) {
	x := impl.Space{States: [][]int{{0}, {1}, {2}}, Steps: [][2]int{{0, 1}}}
	most := impl.MaxValue
	for _, c := range []struct {
		values  []int
		kept    bool
		is      bool
		bound02 int
	}{
		{[]int{most, most, -most}, true, true, 2 * most}, {[]int{-most, -most, most}, true, true, 2 * most},
		{[]int{most, most - 1, 0}, false, true, most}, {[]int{-most, 1 - most, -most}, false, true, 0},
		{[]int{most, most - 2, 0}, false, false, 0}, {[]int{most, -most, 0}, false, false, 0},
		{[]int{-most, most, 0}, false, false, 0},
	} {
		kept, one := impl.AreKept(x, c.values)
		is, two := impl.IsPotential(x, c.values)
		bound, three := impl.PotentialBound(x, c.values, 0, 2)
		if !one || !two || three != c.is || kept != c.kept || is != c.is || bound != c.bound02 {
			t.Error("labels", c.values, kept, is, bound)
		}
	}
	for _, labels := range [][]int{
		nil, {}, {0, 0}, {0, 0, 0, 0}, {most + 1, most + 1, 0}, {0, 0, most + 1}, {-most - 1, -most - 1, 0}, {0, 0, -most - 1},
		{math.MinInt, math.MinInt, 0}, {math.MaxInt, math.MaxInt, 0}, {math.MinInt, math.MaxInt, 0}, make([]int, 1000),
	} {
		for _, c := range []aCall{
			{"AreKept", impl.AreKept, []any{x, labels}},
			{"IsPotential", impl.IsPotential, []any{x, labels}},
			{"PotentialBound", impl.PotentialBound, []any{x, labels, 0, 0}},
		} {
			if !c.fails() {
				t.Error("no labels", c.name, labels)
			}
		}
	}
}

// parityOf tries all lists of 0 and 1, in lexicographic order; the first one that is right has 0
// for the least place of each part.
func parityOf(x impl.Space) ([]int, bool) {
	n := len(x.States)
	for digits := range 1 << n {
		parity := make([]int, n)
		for k := range n {
			parity[k] = digits >> (n - 1 - k) & 1
		}
		if !slices.ContainsFunc(x.Steps, func(s [2]int) bool { return parity[s[0]] == parity[s[1]] }) {
			return parity, true
		}
	}
	return nil, false
}

func TestParityOf(t *testing.T) {
	possible, not := 0, 0
	for _, x := range waySpaces() {
		if len(x.States) > 12 {
			continue
		}
		want, fine := parityOf(x)
		parity, ok := impl.ParityOf(x)
		if ok != fine || !slices.Equal(parity, want) {
			t.Fatal("parity", x, parity, ok, want)
		}
		if fine {
			possible++
		} else {
			not++
		}
	}
	if possible < 100 || not < 100 {
		t.Error("too few of a sort", possible, not)
	}
}

// circle returns the Space of a single circle of n States, all of which have two steps.
func circle(n int) impl.Space {
	x := impl.Space{States: lineStates(n), Steps: [][2]int{{0, 1}, {0, n - 1}}}
	for k := 1; k < n-1; k++ {
		x.Steps = append(x.Steps, [2]int{k, k + 1})
	}
	return x
}

func TestCircles(t *testing.T) {
	for n := 3; n <= impl.MaxStates; n++ {
		x := circle(n)
		diameter, one := impl.DiameterOf(x)
		parity, two := impl.ParityOf(x)
		if !one || diameter != n/2 || two != (n%2 == 0) || two && (len(parity) != n || slices.Max(parity) != 1) || !two && len(parity) != 0 {
			t.Error("circle", n, diameter, parity)
		}
		if n > 12 && n < impl.MaxStates-1 {
			continue
		}
		cuts, ok := impl.CutPlaces(x)
		if !ok || len(cuts) != 0 {
			t.Error("cuts", n, cuts)
		}
	}
}

// without returns a Space without one of its States.
func without(x impl.Space, place int) impl.Space {
	rest := impl.Space{States: slices.Delete(slices.Clone(x.States), place, place+1)}
	for _, step := range x.Steps {
		if step[0] == place || step[1] == place {
			continue
		}
		for k := range step {
			if step[k] > place {
				step[k]--
			}
		}
		rest.Steps = append(rest.Steps, step)
	}
	return rest
}

func TestCutPlaces(t *testing.T) {
	for _, x := range waySpaces() {
		parts := partsOf(distanceTable(x))
		want := []int{}
		for place := range x.States {
			// Without a place that stands alone there is one part less; without most others as many.
			if len(partsOf(distanceTable(without(x, place)))) > len(parts) {
				want = append(want, place)
			}
		}
		if cuts, ok := impl.CutPlaces(x); !ok || !slices.Equal(cuts, want) {
			t.Fatal("cuts", x, cuts, ok)
		}
		for _, part := range parts {
			for _, place := range part {
				if len(part) <= 2 && slices.Contains(want, place) {
					t.Fatal("a cut place in a part of few", x, place)
				}
			}
		}
	}
}

func TestFrozenPlaces(t *testing.T) {
	for _, x := range waySpaces() {
		want := []int{}
		for place := range x.States {
			if !slices.ContainsFunc(x.Steps, func(s [2]int) bool { return s[0] == place || s[1] == place }) {
				want = append(want, place)
			}
		}
		if frozen, ok := impl.FrozenPlaces(x); !ok || !slices.Equal(frozen, want) {
			t.Fatal("frozen", x, frozen, ok)
		}
	}
}

func TestSpaceWithoutStates(t *testing.T) {
	x := impl.Space{}
	parts, one := impl.PartsOf(x)
	diameter, two := impl.DiameterOf(x)
	kept, three := impl.AreKept(x, nil)
	labels, four := impl.PartLabels(x)
	is, five := impl.IsPotential(x, []int{})
	parity, six := impl.ParityOf(x)
	cuts, seven := impl.CutPlaces(x)
	frozen, eight := impl.FrozenPlaces(x)
	way, nine := impl.IsWay(x, nil)
	if !one || !two || !three || !four || !five || !six || !seven || !eight || !nine {
		t.Error("fails", one, two, three, four, five, six, seven, eight, nine)
	}
	if len(parts) != 0 || diameter != 0 || !kept || len(labels) != 0 || !is || len(parity) != 0 || len(cuts) != 0 || len(frozen) != 0 || way {
		t.Error("results", parts, diameter, kept, labels, is, parity, cuts, frozen, way)
	}
	if place, ok := impl.PlaceOf(x, nil); ok || place != 0 {
		t.Error("a state", place)
	}
	if is, ok := impl.IsWay(x, []int{0}); is || !ok {
		t.Error("a way", is, ok)
	}
}

// TestStatesWithoutSteps looks at as many States as there may be.
func TestStatesWithoutSteps(t *testing.T) {
	for _, n := range []int{1, 2, impl.MaxStates} {
		x := impl.Space{States: lineStates(n)}
		parts, one := impl.PartsOf(x)
		diameter, two := impl.DiameterOf(x)
		labels, three := impl.PartLabels(x)
		parity, four := impl.ParityOf(x)
		cuts, five := impl.CutPlaces(x)
		frozen, six := impl.FrozenPlaces(x)
		distances, seven := impl.DistancesFrom(x, n-1)
		if !one || !two || !three || !four || !five || !six || !seven || len(parts) != n || diameter != 0 || len(cuts) != 0 || len(frozen) != n {
			t.Fatal("results", n, len(parts), diameter, cuts, len(frozen))
		}
		if !slices.Equal(parity, make([]int, n)) || !slices.Equal(labels, frozen) {
			t.Error("lists", n, parity, labels, frozen)
		}
		for k := range n {
			if !slices.Equal(parts[k], []int{k}) || labels[k] != k || distances[k] != -1 && k < n-1 || distances[n-1] != 0 {
				t.Error("place", n, k, parts[k], labels[k], distances[k])
			}
			way, ok := impl.FirstWay(x, k, n-1)
			count, fine := impl.CountShortest(x, k, n-1)
			if k < n-1 && (ok || fine || len(way) != 0 || count != 0) || k == n-1 && (!ok || !fine || !slices.Equal(way, []int{k}) || count != 1) {
				t.Error("way", n, k, way, count)
			}
		}
	}
}

func TestLongestLine(t *testing.T) {
	x := limitSpaces()[9]
	n := len(x.States)
	way, one := impl.FirstWay(x, n-1, 0)
	diameter, two := impl.DiameterOf(x)
	cuts, three := impl.CutPlaces(x)
	parity, four := impl.ParityOf(x)
	is, five := impl.IsWay(x, way)
	if !one || !two || !three || !four || !five || !is || len(way) != n || n != impl.MaxStates || diameter != n-1 || len(cuts) != n-2 || parity[n-1] != 1 {
		t.Error("line", n, way, diameter, cuts, parity, is)
	}
}

func TestMostSteps(t *testing.T) {
	for k, n := range []int{impl.MaxStates, 109} {
		x := limitSpaces()[10+k]
		table := distanceTable(x)
		parts, one := impl.PartsOf(x)
		diameter, two := impl.DiameterOf(x)
		distances, three := impl.DistancesFrom(x, n-1)
		cuts, four := impl.CutPlaces(x)
		if !one || !two || !three || !four || len(x.States) != n || !sameLists(parts, partsOf(table)) || diameter != 2-k || len(cuts) != 0 || !slices.Equal(distances, table[n-1]) {
			t.Error("most steps", n, len(parts), diameter, cuts)
		}
	}
}
