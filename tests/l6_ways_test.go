package tests

import (
	"math/rand"
	"slices"
	"testing"

	"loop.example/g01128/impl"
)

// walkOfFlips returns the assignments on a way, from its first one on.
func walkOfFlips(bits []int, vars []int) [][]int {
	walk := [][]int{bits}
	for _, v := range vars {
		bits = negatedBits(bits, []int{v})
		walk = append(walk, bits)
	}
	return walk
}

// checkFlips checks distances and ways between solutions, and that each way is the first one.
func checkFlips(t *testing.T, f impl.Formula, random *rand.Rand) {
	t.Helper()
	x := flipsOf(solutionsOf(f))
	table := distanceTable(x)
	for _, pair := range somePairs(len(x.States), random) {
		a, b, want := x.States[pair[0]], x.States[pair[1]], table[pair[0]][pair[1]]
		distance, one := impl.FlipDistance(f, a, b)
		way, two := impl.FlipWay(f, a, b)
		if want < 0 {
			failAll(t, wayCalls(f, a, b), "no way")
			continue
		}
		if !one || !two || distance != want || len(way) != want || slices.ContainsFunc(way, func(v int) bool { return v < 0 || v >= f.Vars }) {
			t.Fatal("distance", f, a, b, distance, one, way, two, want)
		}
		if !isFirstWay(x, table, pair[0], pair[1], walkOfFlips(a, way)) {
			t.Fatal("way", f, a, b, way)
		}
	}
}

func TestFlipDistanceAndFlipWay(t *testing.T) {
	random := rand.New(rand.NewSource(71))
	for _, f := range someFormulas() {
		checkFlips(t, f, random)
	}
}

// TestFlipWayIsTheFirstOneOfAll looks at all shortest ways of Formulas of few variables.
func TestFlipWayIsTheFirstOneOfAll(t *testing.T) {
	random := rand.New(rand.NewSource(72))
	formulas := append(formulasOfSets(), impl.Formula{Vars: 4}, impl.Formula{Vars: 4, Clauses: [][]int{{1, 2, 3}, {-4, -3, -2}}})
	for _, f := range append(formulas, randomFormulas(73, 40, anySort)...) {
		checkWalks(t, flipsOf(solutionsOf(f)), random, func(a []int, b []int) ([][]int, bool) {
			way, ok := impl.FlipWay(f, a, b)
			if !ok {
				return nil, false
			}
			return walkOfFlips(a, way), true
		})
	}
}

func TestFlipWayOfExamples(t *testing.T) {
	type lists = [][]int
	circle := lists{{1, 2, 3}, {-3, -2, -1}}
	gap := lists{{-2, 1}, {-1, 2}}
	for _, c := range []struct {
		f         impl.Formula
		a, b, way []int // no way is told as nil
	}{
		{impl.Formula{}, nil, nil, []int{}}, {impl.Formula{Vars: 1}, []int{0}, []int{1}, []int{0}}, {impl.Formula{Vars: 1}, []int{1}, []int{1}, []int{}},
		// Of several ways, that with the lesser assignments comes first, and not that with the lesser variables.
		{impl.Formula{Vars: 3}, []int{0, 0, 0}, []int{1, 1, 1}, []int{2, 1, 0}}, {impl.Formula{Vars: 3}, []int{1, 1, 1}, []int{0, 0, 0}, []int{0, 1, 2}},
		{impl.Formula{Vars: 3}, []int{1, 0, 1}, []int{0, 1, 0}, []int{0, 2, 1}}, {impl.Formula{Vars: 6}, []int{0, 1, 0, 1, 0, 1}, []int{1, 0, 1, 0, 1, 0}, []int{1, 3, 5, 4, 2, 0}},
		{impl.Formula{Vars: 2, Clauses: gap}, []int{0, 0}, []int{1, 1}, nil}, {impl.Formula{Vars: 2, Clauses: gap}, []int{1, 1}, []int{1, 1}, []int{}},
		{impl.Formula{Vars: 2, Clauses: lists{{1, 2}}}, []int{0, 1}, []int{1, 0}, []int{0, 1}}, {impl.Formula{Vars: 2, Clauses: lists{{-2, 1}}}, []int{0, 0}, []int{1, 1}, []int{0, 1}},
		// Around a circle, where a variable is flipped twice.
		{impl.Formula{Vars: 3, Clauses: circle}, []int{0, 0, 1}, []int{1, 1, 0}, []int{1, 2, 0}}, {impl.Formula{Vars: 3, Clauses: circle}, []int{1, 0, 0}, []int{0, 1, 1}, []int{2, 0, 1}},
		{formulaFor(3, lists{{0, 0, 0}, {0, 0, 1}, {0, 1, 1}, {1, 1, 1}, {1, 1, 0}}), []int{0, 0, 0}, []int{1, 1, 0}, []int{2, 1, 0, 2}},
	} {
		way, one := impl.FlipWay(c.f, c.a, c.b)
		distance, two := impl.FlipDistance(c.f, c.a, c.b)
		if one != (c.way != nil) || two != one || !slices.Equal(way, c.way) || distance != len(c.way) {
			t.Error("way", c, way, one, distance, two)
		}
	}
}

func TestWaysFromASolutionToItself(t *testing.T) {
	for _, f := range someFormulas() {
		for _, a := range spread(solutionsOf(f), 8) {
			distance, one := impl.FlipDistance(f, a, slices.Clone(a))
			way, two := impl.FlipWay(f, a, a)
			if !one || !two || distance != 0 || len(way) > 0 {
				t.Fatal("the solution alone", f, a, distance, way)
			}
		}
	}
}

// formulasOfTwo has all Formulas of two of 3 variables with at most three different clauses, and
// random ones.
func formulasOfTwo() []impl.Formula {
	clauses := slices.DeleteFunc(clausesOf(3), func(clause []int) bool { return len(clause) > 2 })
	formulas := append(smallFormulas(), randomFormulas(74, 200, twoSort)...)
	everyList(3, 0, len(clauses)-1, func(list []int) {
		if slices.IsSorted(list) {
			f := impl.Formula{Vars: 3}
			for _, k := range list {
				f.Clauses = append(f.Clauses, clauses[k])
			}
			formulas = append(formulas, f)
		}
	})
	return slices.DeleteFunc(formulas, func(f impl.Formula) bool { return !classOf(f)[0] })
}

// TestWaysOfTwoLiteralsAreAsShortAsTheyCanBe: if there is a way, it is as long as the Hamming
// distance.
func TestWaysOfTwoLiteralsAreAsShortAsTheyCanBe(t *testing.T) {
	random := rand.New(rand.NewSource(75))
	ways, none := 0, 0
	for _, f := range formulasOfTwo() {
		if two, _, _, ok := impl.ClassOf(f); !two || !ok {
			t.Fatal("of two", f)
		}
		x := flipsOf(solutionsOf(f))
		least := leastReached(x)
		for _, pair := range somePairs(len(x.States), random) {
			a, b := x.States[pair[0]], x.States[pair[1]]
			distance, ok := impl.FlipDistance(f, a, b)
			if ok != (least[pair[0]] == least[pair[1]]) {
				t.Fatal("a way", f, a, b, ok)
			}
			if !ok {
				none++
				continue
			}
			ways++
			way, _ := impl.FlipWay(f, a, b)
			apart, _ := impl.HammingOf(a, b)
			slices.Sort(way)
			if distance != apart || !slices.Equal(way, nodesApart(a, b)) {
				t.Fatal("longer", f, a, b, distance, apart, way)
			}
		}
	}
	if ways < 10000 || none < 1000 {
		t.Error("too few of a sort", ways, none)
	}
}

// TestWaysOfMoreLiteralsMayBeLonger: so the promise tells something of those of two.
func TestWaysOfMoreLiteralsMayBeLonger(t *testing.T) {
	f := formulaFor(3, [][]int{{0, 0, 0}, {0, 0, 1}, {0, 1, 1}, {1, 1, 1}, {1, 1, 0}})
	distance, one := impl.FlipDistance(f, []int{0, 0, 0}, []int{1, 1, 0})
	apart, two := impl.HammingOf([]int{0, 0, 0}, []int{1, 1, 0})
	if !one || !two || distance != 4 || apart != 2 {
		t.Error("distances", distance, apart)
	}
}

// settledAt goes from flip to flip, as the document tells it.
func settledAt(f impl.Formula, bits []int, number int) []int {
	for v := range bits {
		if next := negatedBits(bits, []int{v}); bits[v] == number && isSolutionOf(f, next) {
			return settledAt(f, next, number)
		}
	}
	return bits
}

func TestLowestHighestAndFlippable(t *testing.T) {
	moved, still := 0, 0
	for _, f := range someFormulas() {
		for _, bits := range solutionsOf(f) {
			low, one := impl.LowestOf(f, bits)
			high, two := impl.HighestOf(f, bits)
			if !one || !slices.Equal(low, settledAt(f, bits, 1)) || !two || !slices.Equal(high, settledAt(f, bits, 0)) {
				t.Fatal("lowest and highest", f, bits, low, one, high, two)
			}
			want := slices.DeleteFunc(setOf(1<<f.Vars-1), func(v int) bool { return !isSolutionOf(f, negatedBits(bits, []int{v})) })
			if vars, ok := impl.FlippableVars(f, bits); !ok || !slices.Equal(vars, want) {
				t.Fatal("flippable", f, bits, vars, ok, want)
			}
			if slices.Equal(low, high) {
				still++
			} else {
				moved++
			}
		}
	}
	if moved < 1000 || still < 100 {
		t.Error("too few of a sort", moved, still)
	}
}

func TestLowestAndHighestOfExamples(t *testing.T) {
	type lists = [][]int
	for _, c := range []struct {
		f                     impl.Formula
		bits, low, high, vars []int
	}{
		{impl.Formula{}, nil, nil, nil, nil}, {impl.Formula{Vars: 3}, []int{0, 1, 0}, []int{0, 0, 0}, []int{1, 1, 1}, []int{0, 1, 2}},
		{impl.Formula{Vars: 2, Clauses: lists{{-2, 1}, {-1, 2}}}, []int{1, 1}, []int{1, 1}, []int{1, 1}, nil},
		{impl.Formula{Vars: 2, Clauses: lists{{1, 2}}}, []int{1, 1}, []int{0, 1}, []int{1, 1}, []int{0, 1}}, {impl.Formula{Vars: 2, Clauses: lists{{-2, -1}}}, []int{0, 0}, []int{0, 0}, []int{1, 0}, []int{0, 1}},
		// After a flip, a variable before this one can be flipped.
		{impl.Formula{Vars: 2, Clauses: lists{{-2, 1}}}, []int{1, 1}, []int{0, 0}, []int{1, 1}, []int{1}}, {impl.Formula{Vars: 2, Clauses: lists{{-1, 2}}}, []int{0, 0}, []int{0, 0}, []int{1, 1}, []int{1}},
		// Then it is before those behind: 101 could go on to 100 as well.
		{formulaFor(3, lists{{1, 1, 1}, {1, 0, 1}, {1, 0, 0}, {0, 0, 1}}), []int{1, 1, 1}, []int{0, 0, 1}, []int{1, 1, 1}, []int{1}},
		{formulaFor(3, lists{{0, 0, 0}, {0, 1, 0}, {0, 1, 1}, {1, 1, 0}}), []int{0, 0, 0}, []int{0, 0, 0}, []int{1, 1, 0}, []int{1}},
		{impl.Formula{Vars: 3, Clauses: lists{{2}, {-3, -1}}}, []int{1, 1, 0}, []int{0, 1, 0}, []int{1, 1, 0}, []int{0}},
	} {
		low, one := impl.LowestOf(c.f, c.bits)
		high, two := impl.HighestOf(c.f, c.bits)
		vars, three := impl.FlippableVars(c.f, c.bits)
		if !one || !two || !three || !slices.Equal(low, c.low) || !slices.Equal(high, c.high) || !slices.Equal(vars, c.vars) {
			t.Error("lowest", c, low, high, vars)
		}
	}
}

// isBelow reports whether no variable is 1 in a alone.
func isBelow(a []int, b []int) bool {
	return !slices.ContainsFunc(nodesApart(a, b), func(v int) bool { return a[v] == 1 })
}

// formulasWhere returns Formulas of a class, told by its place among the results of ClassOf.
func formulasWhere(t *testing.T, class int, sort formulaSort, seed int64) []impl.Formula {
	t.Helper()
	formulas := []impl.Formula{}
	for _, f := range append(someFormulas(), randomFormulas(seed, 500, sort)...) {
		two, horn, dual, ok := impl.ClassOf(f)
		if !ok || [3]bool{two, horn, dual} != classOf(f) {
			t.Fatal("class", f, two, horn, dual, ok)
		}
		if classOf(f)[class] {
			formulas = append(formulas, f)
		}
	}
	return formulas
}

func hasWay(f impl.Formula, a []int, b []int) bool {
	_, ok := impl.FlipDistance(f, a, b)
	return ok
}

// checkMeetings checks that there is a way between two solutions exactly if both settle at the
// same one, and that this one ends all solutions to which there is a way.
func checkMeetings(t *testing.T, formulas []impl.Formula, settle func(f impl.Formula, bits []int) ([]int, bool), ends func(a []int, b []int) bool) {
	t.Helper()
	ways, none := 0, 0
	for _, f := range formulas {
		all := solutionsOf(f)
		least, settled := leastReached(flipsOf(all)), [][]int{}
		for _, bits := range all {
			end, ok := settle(f, bits)
			if !ok {
				t.Fatal("settled", f, bits, end)
			}
			settled = append(settled, end)
		}
		for i, a := range all {
			for j, b := range all {
				meet := slices.Equal(settled[i], settled[j])
				if meet != (least[i] == least[j]) || meet && !ends(settled[i], b) {
					t.Fatal("meeting", f, a, b, settled[i], settled[j])
				}
				if (i+j)%7 < 2 && hasWay(f, a, b) != meet {
					t.Fatal("a way", f, a, b, meet)
				}
				if meet {
					ways++
				} else {
					none++
				}
			}
		}
	}
	if ways < 10000 || none < 1000 {
		t.Error("too few of a sort", ways, none)
	}
}

// TestHornSolutionsMeetAtTheirLowest: it is less than all solutions to which there is a way.
func TestHornSolutionsMeetAtTheirLowest(t *testing.T) {
	checkMeetings(t, formulasWhere(t, 1, hornSort, 76), impl.LowestOf, isBelow)
}

// TestDualHornSolutionsMeetAtTheirHighest: it is greater than all solutions to which there is a
// way.
func TestDualHornSolutionsMeetAtTheirHighest(t *testing.T) {
	checkMeetings(t, formulasWhere(t, 2, dualSort, 77), impl.HighestOf, func(a []int, b []int) bool { return isBelow(b, a) })
}

// TestOtherSolutionsNeedNotMeet: there are ways between solutions with different lowest, and
// highest, ones for Formulas that are neither Horn nor dual Horn.
func TestOtherSolutionsNeedNotMeet(t *testing.T) {
	f := impl.Formula{Vars: 3, Clauses: [][]int{{1, 2, 3}, {-3, -2, -1}}}
	low, one := impl.LowestOf(f, []int{0, 1, 1})
	other, two := impl.LowestOf(f, []int{1, 1, 0})
	high, three := impl.HighestOf(f, []int{0, 0, 1})
	another, four := impl.HighestOf(f, []int{0, 1, 0})
	if !one || !two || !three || !four || !sameLists([][]int{low, other, high, another}, [][]int{{0, 0, 1}, {0, 1, 0}, {1, 0, 1}, {1, 1, 0}}) {
		t.Error("lowest and highest", low, other, high, another)
	}
	if distance, ok := impl.FlipDistance(f, low, other); !ok || distance != 2 {
		t.Error("a way", distance, ok)
	}
}

// TestNegateVarsKeepsAllDistances: between solutions whose variables are negated as well.
func TestNegateVarsKeepsAllDistances(t *testing.T) {
	random := rand.New(rand.NewSource(78))
	ways, none := 0, 0
	for _, f := range append(someFormulas(), randomFormulas(85, 200, anySort)...) {
		all := solutionsOf(f)
		lists := [][]int{{}, setOf(1<<f.Vars - 1), setOf(random.Intn(1 << f.Vars))}
		for _, pair := range somePairs(len(all), random)[:min(len(all)*len(all), 20)] {
			a, b := all[pair[0]], all[pair[1]]
			distance, has := impl.FlipDistance(f, a, b)
			for _, vars := range lists {
				negated, ok := impl.NegateVars(f, vars)
				kept, still := impl.FlipDistance(negated, negatedBits(a, vars), negatedBits(b, vars))
				if !ok || still != has || kept != distance {
					t.Fatal("distance", f, a, b, distance, has, vars, kept, still)
				}
			}
			if has {
				ways++
			} else {
				none++
			}
		}
	}
	if ways < 5000 || none < 500 {
		t.Error("too few of a sort", ways, none)
	}
}
