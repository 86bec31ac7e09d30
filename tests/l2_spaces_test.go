package tests

import (
	"math"
	"math/rand"
	"slices"
	"testing"

	"loop.example/g01128/impl"
)

// fewStates are in order, with several lengths and signs.
var fewStates = [][]int{{}, {-99}, {-99, 0}, {-1, 5}, {0}, {0, 0}, {99, -99}}

// spacesOf returns all Spaces of the first n of fewStates.
func spacesOf(n int) []impl.Space {
	spaces := []impl.Space{}
	pairs := pairsOf(n)
	for digits := range 1 << len(pairs) {
		spaces = append(spaces, impl.Space{States: fewStates[:n], Steps: chosen(pairs, digits)})
	}
	return spaces
}

func smallSpaces(most int) []impl.Space {
	spaces := []impl.Space{}
	for n := range most + 1 {
		spaces = append(spaces, spacesOf(n)...)
	}
	return spaces
}

// lineStates returns n states of two numbers, in order.
func lineStates(n int) [][]int {
	states := [][]int{}
	for k := range n {
		states = append(states, []int{k/100 - 1, k%100 - 50})
	}
	return states
}

// randomSpaces returns Spaces of 6 to 24 States, with few and with many steps.
func randomSpaces(number int) []impl.Space {
	random := rand.New(rand.NewSource(1))
	spaces := []impl.Space{}
	for range number {
		n := 6 + random.Intn(19)
		x := impl.Space{States: lineStates(n)}
		most := 1 + random.Intn(4*n)
		for _, pair := range pairsOf(n) {
			if random.Intn(n*n) < most {
				x.Steps = append(x.Steps, pair)
			}
		}
		spaces = append(spaces, x)
	}
	return spaces
}

func hasStep(x impl.Space, a int, b int) bool {
	return slices.Contains(x.Steps, [2]int{min(a, b), max(a, b)})
}

// distanceTable goes by the places between, and not from place to place as the program does.
func distanceTable(x impl.Space) [][]int {
	n := len(x.States)
	table := make([][]int, n)
	for a := range n {
		table[a] = make([]int, n)
		for b := range n {
			switch {
			case a == b:
			case hasStep(x, a, b):
				table[a][b] = 1
			default:
				table[a][b] = -1
			}
		}
	}
	for c := range n {
		for a := range n {
			for b := range n {
				sum := table[a][c] + table[c][b]
				if table[a][c] >= 0 && table[c][b] >= 0 && (table[a][b] < 0 || sum < table[a][b]) {
					table[a][b] = sum
				}
			}
		}
	}
	return table
}

// partsOf returns the parts that a table of distances tells.
func partsOf(table [][]int) [][]int {
	parts := [][]int{}
	for a := range table {
		part := []int{}
		for b := range table {
			if table[a][b] >= 0 {
				part = append(part, b)
			}
		}
		if part[0] == a {
			parts = append(parts, part)
		}
	}
	return parts
}

func sameLists(a [][]int, b [][]int) bool { return slices.EqualFunc(a, b, slices.Equal[[]int]) }

// badSpaces returns Spaces that are not valid, most of them for a single reason.
func badSpaces() []impl.Space {
	spaces := []impl.Space{}
	for _, states := range [][][]int{
		{{0}, {0}}, {{}, {}}, {{0}, {1}, {1}}, {{1}, {2}, {1}}, {{0, 1}, {0, 1}}, // twice
		{{1}, {0}}, {{0}, {2}, {1}}, {{0, 1}, {0}}, {{0}, {}}, {{0, 1}, {0, 0}}, {{0}, {0, 0}, {-1}}, // out of order
		{{100}}, {{-100}}, {{0}, {0, 100}}, {{0, -100}, {1}}, {{math.MinInt}}, {{math.MaxInt}}, {{0, 0, -100}},
		{make([]int, impl.MaxParts+1)}, {{}, make([]int, impl.MaxParts+1)}, {make([]int, 1000)},
		lineStates(impl.MaxStates + 1), lineStates(500),
	} {
		spaces = append(spaces, impl.Space{States: states})
	}
	for _, steps := range [][][2]int{
		{{1, 0}}, {{0, 1}, {2, 1}}, // the greater place first
		{{1, 1}}, {{0, 0}}, {{3, 3}}, {{0, 1}, {1, 1}}, // the same place twice
		{{0, 1}, {0, 1}}, {{0, 1}, {1, 2}, {1, 2}}, {{0, 1}, {1, 2}, {0, 1}}, // twice
		{{0, 2}, {0, 1}}, {{1, 2}, {0, 3}}, {{0, 1}, {2, 3}, {1, 2}}, {{0, 3}, {1, 2}, {0, 2}}, // out of order
		{{0, 4}}, {{3, 4}}, {{-1, 0}}, {{-1, 4}}, {{4, 5}}, {{-2, -1}}, // no places
		{{0, math.MaxInt}}, {{math.MinInt, 0}}, {{math.MinInt, math.MaxInt}},
	} {
		spaces = append(spaces, impl.Space{States: lineStates(4), Steps: steps})
	}
	return append(spaces,
		impl.Space{Steps: [][2]int{{0, 1}}}, impl.Space{Steps: [][2]int{{0, 0}}},
		impl.Space{States: [][]int{{}}, Steps: [][2]int{{0, 0}}}, impl.Space{States: [][]int{{}}, Steps: [][2]int{{0, 1}}},
		impl.Space{States: lineStates(impl.MaxStates), Steps: pairsOf(impl.MaxStates)[:impl.MaxSteps+1]},
		impl.Space{States: lineStates(impl.MaxStates), Steps: pairsOf(impl.MaxStates)})
}

// limitSpaces returns Spaces at the limits, each of them valid.
func limitSpaces() []impl.Space {
	longest := make([]int, impl.MaxParts)
	line := impl.Space{States: lineStates(impl.MaxStates)}
	for k := range impl.MaxStates - 1 {
		line.Steps = append(line.Steps, [2]int{k, k + 1})
	}
	return []impl.Space{
		{}, {States: [][]int{}, Steps: [][2]int{}}, {States: [][]int{{}}}, {States: [][]int{nil}}, {States: [][]int{{99}}},
		{States: [][]int{{-99}, {0}, {99}}, Steps: [][2]int{{0, 1}, {0, 2}, {1, 2}}},
		{States: [][]int{{}, {-99, 99}, {0}, longest}, Steps: [][2]int{{0, 3}}},
		{States: [][]int{{-99}, {-99, -99}, {-98}, {99, -99}, {99, 99}}},
		{States: lineStates(impl.MaxStates)}, line,
		{States: lineStates(impl.MaxStates), Steps: pairsOf(impl.MaxStates)[:impl.MaxSteps]},
		{States: lineStates(109), Steps: pairsOf(109)},
	}
}

func TestIsSpace(t *testing.T) {
	for _, x := range slices.Concat(smallSpaces(4), randomSpaces(20), limitSpaces()) {
		if !impl.IsSpace(x) {
			t.Error("valid", x)
		}
	}
	for _, x := range badSpaces() {
		if impl.IsSpace(x) {
			t.Error("not valid", x)
		}
	}
}

// callsFor returns a call of each function for a Space, with arguments that are valid if the
// Space has a State.
func callsFor(x impl.Space) []aCall {
	labels, state := make([]int, len(x.States)), []int{}
	if len(x.States) > 0 {
		state = x.States[0]
	}
	one := impl.Space{States: [][]int{{7}}}
	return []aCall{
		{"PlaceOf", impl.PlaceOf, []any{x, state}},
		{"StepsFrom", impl.StepsFrom, []any{x, 0}},
		{"DistancesFrom", impl.DistancesFrom, []any{x, 0}},
		{"FirstWay", impl.FirstWay, []any{x, 0, 0}},
		{"IsWay", impl.IsWay, []any{x, []int{0}}},
		{"IsWay", impl.IsWay, []any{x, []int{}}},
		{"CountShortest", impl.CountShortest, []any{x, 0, 0}},
		{"PartsOf", impl.PartsOf, []any{x}},
		{"DiameterOf", impl.DiameterOf, []any{x}},
		{"AreKept", impl.AreKept, []any{x, labels}},
		{"PartLabels", impl.PartLabels, []any{x}},
		{"IsPotential", impl.IsPotential, []any{x, labels}},
		{"PotentialBound", impl.PotentialBound, []any{x, labels, 0, 0}},
		{"ParityOf", impl.ParityOf, []any{x}},
		{"CutPlaces", impl.CutPlaces, []any{x}},
		{"FrozenPlaces", impl.FrozenPlaces, []any{x}},
		{"InducedSpace", impl.InducedSpace, []any{x, []int{0}}},
		{"InducedSpace", impl.InducedSpace, []any{x, []int{}}},
		{"ProductSpace", impl.ProductSpace, []any{x, one}},
		{"ProductSpace", impl.ProductSpace, []any{one, x}},
		{"ProductSpace", impl.ProductSpace, []any{x, impl.Space{}}},
		{"ProductSpace", impl.ProductSpace, []any{impl.Space{}, x}},
		{"JoinSpaces", impl.JoinSpaces, []any{x, impl.Space{}}},
		{"JoinSpaces", impl.JoinSpaces, []any{impl.Space{}, x}},
		{"JoinSpaces", impl.JoinSpaces, []any{x, x}},
	}
}

func TestFunctionsFailForOtherSpaces(t *testing.T) {
	for k, x := range badSpaces() {
		for _, c := range callsFor(x) {
			if !c.fails() {
				t.Error("not valid", k, c.name)
			}
		}
	}
}

// TestFunctionsSucceedAtTheLimits: without it, the test before might pass for wrong reasons.
func TestFunctionsSucceedAtTheLimits(t *testing.T) {
	for k, x := range []impl.Space{
		{States: [][]int{{0}}}, {States: lineStates(impl.MaxStates)}, {States: [][]int{{-99}, {99}}},
		{States: [][]int{make([]int, impl.MaxParts-1), slices.Repeat([]int{1}, impl.MaxParts-1)}, Steps: [][2]int{{0, 1}}},
		{States: lineStates(4), Steps: [][2]int{{0, 1}, {0, 3}, {1, 2}, {2, 3}}},
	} {
		for _, c := range callsFor(x) {
			if !c.succeeds() {
				t.Error("valid", k, c.name)
			}
		}
	}
}

func TestFunctionsOfSpacesKeepMemoryApart(t *testing.T) {
	for _, x := range slices.Concat(smallSpaces(4), randomSpaces(20), badSpaces()[:19]) {
		for _, c := range callsFor(x) {
			checkMemory(t, c)
		}
		checkMemory(t, aCall{"IsSpace", impl.IsSpace, []any{x}})
		for j := range x.States {
			everyPlace := []int{}
			for k := range j + 1 {
				everyPlace = append(everyPlace, k)
			}
			checkMemory(t, aCall{"FirstWay", impl.FirstWay, []any{x, 0, j}})
			checkMemory(t, aCall{"CountShortest", impl.CountShortest, []any{x, 0, j}})
			checkMemory(t, aCall{"InducedSpace", impl.InducedSpace, []any{x, everyPlace}})
			checkMemory(t, aCall{"IsWay", impl.IsWay, []any{x, everyPlace}})
			checkMemory(t, aCall{"PotentialBound", impl.PotentialBound, []any{x, everyPlace, 0, j}})
		}
	}
}

func TestPlaceOf(t *testing.T) {
	for n := range len(fewStates) + 1 {
		x := impl.Space{States: fewStates[:n]}
		for k, state := range fewStates {
			place, ok := impl.PlaceOf(x, state)
			if ok != (k < n) || ok && place != k || !ok && place != 0 {
				t.Error("place", n, state, place, ok)
			}
		}
	}
	x := impl.Space{States: lineStates(impl.MaxStates)}
	for k, state := range x.States {
		if place, ok := impl.PlaceOf(x, state); !ok || place != k {
			t.Error("place", state, place, ok)
		}
	}
	for _, state := range [][]int{
		nil, {}, {0}, {-1}, {0, 50}, {-1, -51}, {2, 0}, {-1, -50, 0}, {math.MinInt, 0}, {0, math.MaxInt},
		{1, 49, 0}, {100, 100}, make([]int, impl.MaxParts), make([]int, impl.MaxParts+1), make([]int, 1000),
	} {
		if place, ok := impl.PlaceOf(x, state); ok || place != 0 {
			t.Error("none of the States", state, place, ok)
		}
	}
	if place, ok := impl.PlaceOf(impl.Space{States: [][]int{nil, {0}}}, []int{}); !ok || place != 0 {
		t.Error("nil and empty", place, ok)
	}
}

func TestStepsFrom(t *testing.T) {
	for _, x := range slices.Concat(smallSpaces(5), randomSpaces(100)) {
		for i := range x.States {
			want := []int{}
			for j := range x.States {
				if hasStep(x, i, j) {
					want = append(want, j)
				}
			}
			if steps, ok := impl.StepsFrom(x, i); !ok || !slices.Equal(steps, want) {
				t.Fatal("steps", x, i, steps, ok)
			}
		}
	}
}

// TestPlacesOutsideTheSpace has labels that are a potential, so that only the places are wrong.
func TestPlacesOutsideTheSpace(t *testing.T) {
	for _, x := range slices.Concat(smallSpaces(3), limitSpaces()) {
		n := len(x.States)
		labels := make([]int, n)
		for _, place := range []int{-1, n, n + 1, -n - 1, math.MinInt, math.MaxInt} {
			for _, c := range []aCall{
				{"StepsFrom", impl.StepsFrom, []any{x, place}},
				{"DistancesFrom", impl.DistancesFrom, []any{x, place}},
				{"FirstWay", impl.FirstWay, []any{x, place, 0}},
				{"FirstWay", impl.FirstWay, []any{x, 0, place}},
				{"FirstWay", impl.FirstWay, []any{x, place, place}},
				{"CountShortest", impl.CountShortest, []any{x, place, 0}},
				{"CountShortest", impl.CountShortest, []any{x, 0, place}},
				{"CountShortest", impl.CountShortest, []any{x, place, place}},
				{"PotentialBound", impl.PotentialBound, []any{x, labels, place, 0}},
				{"PotentialBound", impl.PotentialBound, []any{x, labels, 0, place}},
				{"PotentialBound", impl.PotentialBound, []any{x, labels, place, place}},
				{"InducedSpace", impl.InducedSpace, []any{x, []int{place}}},
				{"InducedSpace", impl.InducedSpace, []any{x, []int{min(0, place), max(0, place)}}},
			} {
				if !c.fails() {
					t.Error("place", n, place, c.name)
				}
			}
		}
	}
}
