package tests

import (
	"math"
	"math/rand"
	"reflect"
	"slices"
	"testing"

	"loop.example/g01128/impl"
)

func sameSpace(x impl.Space, y impl.Space) bool {
	return sameLists(x.States, y.States) && slices.Equal(x.Steps, y.Steps)
}

// stepsWhere returns the steps between n States for which a rule holds.
func stepsWhere(n int, rule func(a int, b int) bool) [][2]int {
	steps := [][2]int{}
	for _, pair := range pairsOf(n) {
		if rule(pair[0], pair[1]) {
			steps = append(steps, pair)
		}
	}
	return steps
}

func inducedSpace(x impl.Space, places []int) impl.Space {
	induced := impl.Space{Steps: stepsWhere(len(places), func(a int, b int) bool { return hasStep(x, places[a], places[b]) })}
	for _, place := range places {
		induced.States = append(induced.States, x.States[place])
	}
	return induced
}

func checkInduced(t *testing.T, x impl.Space, places []int) {
	t.Helper()
	induced, ok := impl.InducedSpace(x, places)
	if !ok || !impl.IsSpace(induced) || !sameSpace(induced, inducedSpace(x, places)) {
		t.Fatal("induced", x, places, induced, ok)
	}
}

func TestInducedSpace(t *testing.T) {
	for _, x := range smallSpaces(5) {
		for digits := range 1 << len(x.States) {
			places := []int{}
			for place := range x.States {
				if digits>>place&1 == 1 {
					places = append(places, place)
				}
			}
			checkInduced(t, x, places)
		}
	}
	random := rand.New(rand.NewSource(3))
	for _, x := range append(randomSpaces(50), limitSpaces()...) {
		places := []int{}
		for place := range x.States {
			if random.Intn(3) > 0 {
				places = append(places, place)
			}
		}
		checkInduced(t, x, places)
		checkInduced(t, x, nil)
	}
}

func TestInducedSpaceOfOtherLists(t *testing.T) {
	x := impl.Space{States: lineStates(4), Steps: [][2]int{{0, 1}, {1, 2}, {2, 3}}}
	for _, places := range [][]int{
		{0, 0}, {1, 1}, {3, 3}, {0, 1, 1}, {1, 0}, {0, 2, 1}, {3, 2, 1, 0}, {0, 1, 2, 3, 3}, {0, 1, 0},
		{-1}, {4}, {-1, 0}, {0, 4}, {0, 1, 2, 3, 4}, {math.MinInt, 0}, {0, math.MaxInt}, make([]int, 1000),
	} {
		if c := (aCall{"InducedSpace", impl.InducedSpace, []any{x, places}}); !c.fails() {
			t.Error("no places", places)
		}
	}
	for _, place := range []int{0, -1, 1} {
		if c := (aCall{"InducedSpace", impl.InducedSpace, []any{impl.Space{}, []int{place}}}); !c.fails() {
			t.Error("no States", place)
		}
	}
}

// ofOneLength returns Spaces of at most most States that have two numbers.
func ofOneLength(most int) []impl.Space {
	spaces := []impl.Space{}
	for n := range most + 1 {
		pairs := pairsOf(n)
		for digits := range 1 << len(pairs) {
			spaces = append(spaces, impl.Space{States: lineStates(n), Steps: chosen(pairs, digits)})
		}
	}
	return spaces
}

// productSpace follows the words of the document, pair of places by pair of places.
func productSpace(x impl.Space, y impl.Space) impl.Space {
	product, places := impl.Space{}, [][2]int{}
	for i := range x.States {
		for j := range y.States {
			state := append(slices.Clone(x.States[i]), y.States[j]...)
			product.States = append(product.States, state)
			places = append(places, [2]int{i, j})
		}
	}
	product.Steps = stepsWhere(len(places), func(a int, b int) bool {
		p, q := places[a], places[b]
		return p[0] == q[0] && hasStep(y, p[1], q[1]) || p[1] == q[1] && hasStep(x, p[0], q[0])
	})
	return product
}

func checkProduct(t *testing.T, x impl.Space, y impl.Space) {
	t.Helper()
	product, ok := impl.ProductSpace(x, y)
	if !ok || !impl.IsSpace(product) || !sameSpace(product, productSpace(x, y)) {
		t.Fatal("product", x, y, product, ok)
	}
	first, second := distanceTable(x), distanceTable(y)
	for i := range x.States {
		for j := range y.States {
			distances, _ := impl.DistancesFrom(product, i*len(y.States)+j)
			for k, distance := range distances {
				a, b := first[i][k/len(y.States)], second[j][k%len(y.States)]
				if a < 0 || b < 0 {
					a, b = -1, 0
				}
				if distance != a+b {
					t.Fatal("distance", x, y, i, j, k, distance)
				}
			}
		}
	}
}

// TestProductSpace: the States of the second Space have several lengths.
func TestProductSpace(t *testing.T) {
	for _, x := range ofOneLength(3) {
		for _, y := range smallSpaces(3) {
			checkProduct(t, x, y)
		}
	}
	spaces := randomSpaces(40)
	for k, x := range spaces {
		y := spaces[(k+1)%len(spaces)]
		if len(x.States)*len(y.States) <= 150 {
			checkProduct(t, x, y)
			checkProduct(t, y, x)
		}
	}
	for _, x := range ofOneLength(4)[20:40] {
		for _, y := range spacesOf(4)[30:50] {
			checkProduct(t, x, y)
		}
	}
}

func TestProductSpaceWithFewStates(t *testing.T) {
	empty, alone := impl.Space{}, impl.Space{States: [][]int{{}}}
	for _, x := range smallSpaces(4) {
		if product, ok := impl.ProductSpace(empty, x); !ok || !isZero(reflect.ValueOf(product)) {
			t.Error("nothing and a Space", x, product, ok)
		}
		if product, ok := impl.ProductSpace(alone, x); !ok || !sameSpace(product, x) {
			t.Error("the empty State and a Space", x, product, ok)
		}
	}
	for _, x := range ofOneLength(4) {
		if product, ok := impl.ProductSpace(x, empty); !ok || !isZero(reflect.ValueOf(product)) {
			t.Error("a Space and nothing", x, product, ok)
		}
		if product, ok := impl.ProductSpace(x, alone); !ok || !sameSpace(product, x) {
			t.Error("a Space and the empty State", x, product, ok)
		}
	}
}

func TestProductSpaceOfStatesWithDifferentLengths(t *testing.T) {
	one := impl.Space{States: [][]int{{3}}}
	for _, states := range [][][]int{
		{{}, {0}}, {{0}, {0, 0}}, {{0}, {1, 1}}, {{0, 0}, {1}}, {{0}, {1}, {1, 1}}, {{0}, {1, 1}, {2}}, {{-1, 0}, {0}, {1}},
	} {
		x := impl.Space{States: states, Steps: [][2]int{{0, 1}}}
		for _, y := range []impl.Space{{}, one, x} {
			if c := (aCall{"ProductSpace", impl.ProductSpace, []any{x, y}}); !c.fails() {
				t.Error("different lengths", x, y)
			}
		}
		checkProduct(t, one, x)
	}
}

func TestProductSpaceOfLongStates(t *testing.T) {
	most := impl.MaxParts
	for _, c := range []struct {
		first  int
		second []int
		ok     bool
	}{
		{0, []int{most}, true}, {most, []int{0}, true}, {most, nil, true}, {most / 2, []int{most / 2}, true},
		{most - 1, []int{0, 1}, true}, {1, []int{0, most - 1}, true}, {most, []int{1}, false}, {1, []int{most}, false},
		{most / 2, []int{most/2 + 1}, false}, {most/2 + 1, []int{most / 2}, false}, {most, []int{most}, false},
		{most, []int{0, 1}, false}, {1, []int{0, 1, most}, false}, {most - 1, []int{1, 2}, false},
	} {
		x := impl.Space{States: [][]int{make([]int, c.first)}}
		y := impl.Space{}
		for _, length := range c.second {
			y.States = append(y.States, make([]int, length))
		}
		if c.ok {
			checkProduct(t, x, y)
		} else if call := (aCall{"ProductSpace", impl.ProductSpace, []any{x, y}}); !call.fails() {
			t.Error("too long", c)
		}
	}
}

// withSteps returns a Space of n States with the first ones of all steps.
func withSteps(n int, steps int) impl.Space {
	return impl.Space{States: lineStates(n), Steps: pairsOf(n)[:steps]}
}

func TestLimitsOfProductSpace(t *testing.T) {
	for _, c := range []struct {
		x, y   impl.Space
		states int
		steps  int
	}{
		{withSteps(15, 0), withSteps(20, 0), 300, 0}, {withSteps(1, 0), withSteps(300, 6000), 300, 6000},
		{withSteps(300, 6000), withSteps(1, 0), 300, 6000}, {withSteps(2, 1), withSteps(150, 2925), 300, 6000},
		{withSteps(150, 2925), withSteps(2, 1), 300, 6000}, {withSteps(12, 60), withSteps(25, 300), 300, 5100},
		{withSteps(2, 1), withSteps(112, 2944), 224, 6000},
	} {
		product, ok := impl.ProductSpace(c.x, c.y)
		if !ok || !impl.IsSpace(product) || len(product.States) != c.states || len(product.Steps) != c.steps {
			t.Error("at the limits", len(c.x.States), len(c.y.States), ok)
		}
	}
	for k, c := range [][2]impl.Space{
		{withSteps(7, 0), withSteps(43, 0)}, {withSteps(43, 0), withSteps(7, 0)}, {withSteps(300, 0), withSteps(2, 0)},
		{withSteps(300, 6000), withSteps(300, 6000)}, {withSteps(2, 1), withSteps(149, 2926)},
		{withSteps(149, 2926), withSteps(2, 1)}, {withSteps(2, 1), withSteps(150, 2926)}, {withSteps(2, 0), withSteps(100, 3001)},
	} {
		if call := (aCall{"ProductSpace", impl.ProductSpace, []any{c[0], c[1]}}); !call.fails() {
			t.Error("too great", k)
		}
	}
	// Without States, there are no steps, though the other Space has many.
	for _, c := range [][2]impl.Space{{withSteps(0, 0), withSteps(300, 6000)}, {withSteps(300, 6000), withSteps(0, 0)}} {
		if product, ok := impl.ProductSpace(c[0], c[1]); !ok || !isZero(reflect.ValueOf(product)) {
			t.Error("nothing", product, ok)
		}
	}
}

func indexOf(states [][]int, state []int) int {
	return slices.IndexFunc(states, func(other []int) bool { return slices.Equal(state, other) })
}

// joinedSpace looks for the places of each pair of States in both Spaces.
func joinedSpace(x impl.Space, y impl.Space) impl.Space {
	joined := impl.Space{}
	for _, state := range slices.Concat(x.States, y.States) {
		if indexOf(joined.States, state) < 0 {
			joined.States = append(joined.States, state)
		}
	}
	slices.SortFunc(joined.States, slices.Compare[[]int])
	between := func(z impl.Space, a int, b int) bool {
		i, j := indexOf(z.States, joined.States[a]), indexOf(z.States, joined.States[b])
		return i >= 0 && j >= 0 && hasStep(z, i, j)
	}
	joined.Steps = stepsWhere(len(joined.States), func(a int, b int) bool { return between(x, a, b) || between(y, a, b) })
	return joined
}

func checkJoined(t *testing.T, x impl.Space, y impl.Space) {
	t.Helper()
	joined, ok := impl.JoinSpaces(x, y)
	if !ok || !impl.IsSpace(joined) || !sameSpace(joined, joinedSpace(x, y)) {
		t.Fatal("joined", x, y, joined, ok)
	}
}

// someOf returns the Spaces of all steps between each choice of a few States.
func someOf(states [][]int) []impl.Space {
	spaces := []impl.Space{}
	for digits := range 1 << len(states) {
		x := impl.Space{}
		for k, state := range states {
			if digits>>k&1 == 1 {
				x.States = append(x.States, state)
			}
		}
		pairs := pairsOf(len(x.States))
		for steps := range 1 << len(pairs) {
			spaces = append(spaces, impl.Space{States: x.States, Steps: chosen(pairs, steps)})
		}
	}
	return spaces
}

// TestJoinSpaces: the Spaces share no States, some, or all, and with these some steps.
func TestJoinSpaces(t *testing.T) {
	spaces := someOf(fewStates[1:5])
	for _, x := range spaces {
		for _, y := range spaces {
			checkJoined(t, x, y)
		}
	}
	spaces = append(randomSpaces(20), smallSpaces(3)...)
	for k, x := range spaces {
		places := []int{}
		for place := k % 3; place < len(x.States); place += 2 {
			places = append(places, place)
		}
		checkJoined(t, x, inducedSpace(x, places))
		checkJoined(t, x, spaces[(k+1)%len(spaces)])
		checkJoined(t, x, x)
	}
}

// shifted returns a Space with other States: the numbers of each are greater by a number.
func shifted(x impl.Space, by int) impl.Space {
	y := impl.Space{Steps: x.Steps}
	for _, state := range x.States {
		y.States = append(y.States, []int{state[0] + by, state[1]})
	}
	return y
}

func TestLimitsOfJoinSpaces(t *testing.T) {
	full := withSteps(impl.MaxStates, impl.MaxSteps)
	for _, c := range [][2]impl.Space{
		{full, full}, {full, {}}, {{}, full}, {full, withSteps(100, 99)}, {withSteps(150, 0), shifted(withSteps(150, 0), 50)},
		{withSteps(100, 3000), shifted(withSteps(100, 3000), 50)}, {withSteps(299, 0), {States: [][]int{{}}}},
		{withSteps(300, 5999), {States: lineStates(300), Steps: [][2]int{{298, 299}}}},
		{full, {States: lineStates(300), Steps: pairsOf(300)[3000:6000]}},
	} {
		checkJoined(t, c[0], c[1])
	}
	for k, c := range [][2]impl.Space{
		{withSteps(300, 0), {States: [][]int{{}}}}, {{States: [][]int{{99}}}, withSteps(300, 0)},
		{withSteps(150, 0), shifted(withSteps(151, 0), 50)}, {withSteps(300, 0), shifted(withSteps(300, 0), 50)},
		{full, {States: lineStates(300), Steps: [][2]int{{298, 299}}}}, {{States: lineStates(300), Steps: [][2]int{{298, 299}}}, full},
		{withSteps(100, 3000), shifted(withSteps(100, 3001), 50)}, {full, shifted(withSteps(109, 5886), 50)},
		{full, {States: lineStates(300), Steps: pairsOf(300)[6000:12000]}},
	} {
		for _, z := range c {
			if !impl.IsSpace(z) {
				t.Error("not valid", k)
			}
		}
		if call := (aCall{"JoinSpaces", impl.JoinSpaces, []any{c[0], c[1]}}); !call.fails() {
			t.Error("too great", k)
		}
	}
}

func TestFormsKeepMemoryApart(t *testing.T) {
	spaces := someOf(fewStates[3:6])
	for _, x := range spaces {
		for _, y := range spaces {
			checkMemory(t, aCall{"ProductSpace", impl.ProductSpace, []any{x, y}})
			checkMemory(t, aCall{"JoinSpaces", impl.JoinSpaces, []any{x, y}})
		}
	}
	for _, x := range ofOneLength(3) {
		for _, y := range smallSpaces(2) {
			checkMemory(t, aCall{"ProductSpace", impl.ProductSpace, []any{x, y}})
		}
	}
}
