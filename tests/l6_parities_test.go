package tests

import (
	"math"
	"math/rand"
	"slices"
	"testing"

	"loop.example/g01128/impl"
)

func parityHolds(p impl.Parity, bits []int) bool {
	for k, row := range p.Rows {
		right := 0
		for _, v := range row {
			right ^= bits[v]
		}
		if right != p.Right[k] {
			return false
		}
	}
	return true
}

func paritySolutions(p impl.Parity) [][]int {
	return slices.DeleteFunc(bitsOf(p.Vars), func(bits []int) bool { return !parityHolds(p, bits) })
}

// smallParities has all lists of few rows, in any order and with repeated ones.
func smallParities() []impl.Parity {
	parities := []impl.Parity{}
	for vars, most := range []int{3, 3, 2, 2} {
		// The last binary digit of a number tells the right side, the others the variables.
		everyList(most, 0, 2<<vars-1, func(list []int) {
			p := impl.Parity{Vars: vars}
			for _, number := range list {
				p.Rows = append(p.Rows, setOf(number>>1))
				p.Right = append(p.Right, number&1)
			}
			parities = append(parities, p)
		})
	}
	return parities
}

func randomParities(number int) []impl.Parity {
	random := rand.New(rand.NewSource(79))
	parities := []impl.Parity{}
	for range number {
		p := impl.Parity{Vars: 3 + random.Intn(impl.MaxVars-2)}
		for range random.Intn(impl.MaxRows + 1) {
			// Fewer variables in each row leave more of them loose.
			p.Rows = append(p.Rows, setOf(random.Intn(1<<p.Vars)&random.Intn(1<<p.Vars)))
			p.Right = append(p.Right, random.Intn(2))
		}
		parities = append(parities, p)
	}
	return parities
}

// limitParities are at the limits, and have all variables loose, or none.
func limitParities() []impl.Parity {
	type lists = [][]int
	return []impl.Parity{
		{}, {Vars: 1}, {Vars: impl.MaxVars}, {Rows: lists{{}}, Right: []int{0}}, {Rows: lists{nil}, Right: []int{1}},
		{Rows: make([][]int, impl.MaxRows), Right: make([]int, impl.MaxRows)}, {Rows: make([][]int, impl.MaxRows), Right: []int{0, 0, 0, 0, 0, 1}},
		{Vars: impl.MaxVars, Rows: lists{{0, 1, 2, 3, 4, 5}}, Right: []int{1}}, {Vars: impl.MaxVars, Rows: lists{{0}, {1}, {2}, {3}, {4}, {5}}, Right: []int{0, 1, 0, 1, 1, 0}},
		{Vars: impl.MaxVars, Rows: lists{{}, {5}, {}}, Right: []int{0, 1, 0}}, {Vars: impl.MaxVars, Rows: lists{{}}, Right: []int{1}},
		{Vars: impl.MaxVars, Rows: lists{{0, 5}, {0, 5}}, Right: []int{0, 1}}, {Vars: impl.MaxVars, Rows: slices.Repeat(lists{{1, 4}}, impl.MaxRows), Right: []int{1, 1, 1, 1, 1, 1}},
		{Vars: 3, Rows: lists{{0, 1}, {1, 2}, {0, 2}}, Right: []int{1, 1, 0}}, {Vars: 3, Rows: lists{{0, 1}, {1, 2}, {0, 2}}, Right: []int{1, 1, 1}},
	}
}

func someParities() []impl.Parity {
	return slices.Concat(smallParities(), limitParities(), randomParities(200))
}

// badParities returns Parities that are not valid, most of them for a single reason.
func badParities() []impl.Parity {
	type lists = [][]int
	parities := []impl.Parity{}
	for _, vars := range farVars {
		parities = append(parities, impl.Parity{Vars: vars}, impl.Parity{Vars: vars, Rows: lists{{}}, Right: []int{0}}, impl.Parity{Vars: vars, Rows: lists{{0}}, Right: []int{1}})
	}
	for _, rows := range []lists{
		{{0, 0}}, {{1, 0}}, {{0, 2, 1}}, {{0, 1, 2, 0}}, {{0, 1, 1}}, {{3}}, {{0, 3}}, {{-1}}, {{-1, 0}}, {{math.MaxInt}}, {{math.MinInt}}, {{1 << 32}}, {{}, {1, 0}}, {{0, 1}, {2, 3}}, {make([]int, 1000)},
	} {
		for right := range 2 {
			parities = append(parities, impl.Parity{Vars: 3, Rows: rows, Right: slices.Repeat([]int{right}, len(rows))})
		}
	}
	for _, right := range [][]int{nil, {}, {0}, {0, 1, 0}, {0, 2}, {2, 0}, {-1, 0}, {1, -1}, {0, math.MaxInt}, {math.MinInt, 0}, {1 << 32, 0}, {0, 1 << 32}, make([]int, 1000)} {
		parities = append(parities, impl.Parity{Vars: 3, Rows: lists{{0, 1}, {}}, Right: right})
	}
	return append(parities, impl.Parity{Vars: 3, Rows: lists{{1, 0}}, Right: []int{2}}, impl.Parity{Vars: 7, Rows: lists{{3}, {-1}}, Right: []int{-1, 0}}, impl.Parity{Right: []int{0}}, impl.Parity{Vars: 2, Right: []int{1}}, impl.Parity{Vars: 2, Right: make([]int, impl.MaxRows)},
		impl.Parity{Rows: lists{{0}}, Right: []int{0}}, impl.Parity{Vars: impl.MaxVars, Rows: lists{{6}}, Right: []int{0}},
		impl.Parity{Rows: make([][]int, impl.MaxRows+1), Right: make([]int, impl.MaxRows+1)}, impl.Parity{Vars: 6, Rows: slices.Repeat(lists{{0}}, 1000), Right: make([]int, 1000)})
}

func TestIsParity(t *testing.T) {
	for _, p := range someParities() {
		if !impl.IsParity(p) {
			t.Fatal("valid", p)
		}
	}
	for _, p := range badParities() {
		if impl.IsParity(p) {
			t.Error("not valid", p)
		}
	}
	for n := range impl.MaxRows + 3 {
		for _, row := range [][]int{{}, {0, 1}} {
			p := impl.Parity{Vars: 2, Rows: slices.Repeat([][]int{row}, n), Right: slices.Repeat([]int{1}, n)}
			if impl.IsParity(p) != (n <= 6) {
				t.Error("number of rows", n, row)
			}
		}
	}
	for vars := -3; vars <= impl.MaxVars+3; vars++ {
		for _, v := range []int{-1, 0, vars - 1, vars, vars + 1} {
			p := impl.Parity{Vars: vars, Rows: [][]int{{v}}, Right: []int{0}}
			if impl.IsParity(p) != (vars <= 6 && 0 <= v && v < vars) {
				t.Error("variable", vars, v)
			}
		}
		if impl.IsParity(impl.Parity{Vars: vars}) != (0 <= vars && vars <= 6) {
			t.Error("number of variables", vars)
		}
	}
}

func TestIsParityForAllShortRows(t *testing.T) {
	for vars := range 4 {
		everyList(3, -1, 3, func(row []int) {
			want := true
			for k, v := range row {
				want = want && 0 <= v && v < vars && (k == 0 || row[k-1] < v)
			}
			for _, p := range []impl.Parity{{Vars: vars, Rows: [][]int{row}, Right: []int{1}}, {Vars: vars, Rows: [][]int{{}, row}, Right: []int{0, 0}}} {
				if impl.IsParity(p) != want {
					t.Fatal("row", p, want)
				}
			}
		})
	}
}

func TestParitySpaceAndParityFormula(t *testing.T) {
	none, some := 0, 0
	for _, p := range someParities() {
		all := paritySolutions(p)
		x, one := impl.ParitySpace(p)
		if !one || !impl.IsSpace(x) || !sameSpace(x, flipsOf(all)) {
			t.Fatal("space", p, x, one)
		}
		f, two := impl.ParityFormula(p)
		if !two || !impl.IsFormula(f) || !sameFormula(f, formulaFor(p.Vars, all)) || !sameLists(solutionsOf(f), all) {
			t.Fatal("formula", p, f, two)
		}
		if of, ok := impl.FormulaOf(p.Vars, all); !ok || !sameFormula(f, of) {
			t.Fatal("formula of all solutions", p, f, of)
		}
		if y, ok := impl.FlipSpace(f); !ok || !sameSpace(x, y) {
			t.Fatal("flip space", p, y)
		}
		if closed, ok := impl.IsClosed(f, impl.OpSum); !ok || !closed || !isClosedUnder(all, impl.OpSum) {
			t.Fatal("not closed", p, closed, ok)
		}
		if len(all) == 0 {
			none++
		} else {
			some++
		}
	}
	if none < 100 || some < 100 {
		t.Error("too few of a sort", none, some)
	}
}

func TestParitiesOfExamples(t *testing.T) {
	type lists = [][]int
	for _, c := range []struct {
		p      impl.Parity
		states lists
		steps  [][2]int
		loose  []int
	}{
		{impl.Parity{}, lists{{}}, nil, nil}, {impl.Parity{Rows: lists{{}}, Right: []int{0}}, lists{{}}, nil, nil}, {impl.Parity{Rows: lists{{}}, Right: []int{1}}, nil, nil, nil},
		{impl.Parity{Vars: 1}, lists{{0}, {1}}, [][2]int{{0, 1}}, []int{0}}, {impl.Parity{Vars: 1, Rows: lists{{}, {0}}, Right: []int{0, 1}}, lists{{1}}, nil, nil},
		{impl.Parity{Vars: 2, Rows: lists{{0}}, Right: []int{0}}, lists{{0, 0}, {0, 1}}, [][2]int{{0, 1}}, []int{1}},
		{impl.Parity{Vars: 2, Rows: lists{{0, 1}}, Right: []int{0}}, lists{{0, 0}, {1, 1}}, nil, nil},
		{impl.Parity{Vars: 2, Rows: lists{{0, 1}, {0, 1}}, Right: []int{0, 1}}, nil, nil, nil}, {impl.Parity{Vars: 2, Rows: lists{{0, 1}, {0, 1}}, Right: []int{1, 1}}, lists{{0, 1}, {1, 0}}, nil, nil},
		{impl.Parity{Vars: 3, Rows: lists{{0, 2}}, Right: []int{1}}, lists{{0, 0, 1}, {0, 1, 1}, {1, 0, 0}, {1, 1, 0}}, [][2]int{{0, 1}, {2, 3}}, []int{1}},
		{impl.Parity{Vars: 3, Rows: lists{{0, 1, 2}, {1}}, Right: []int{1, 1}}, lists{{0, 1, 0}, {1, 1, 1}}, nil, nil},
		{impl.Parity{Vars: 3, Rows: lists{{}, {}}, Right: []int{0, 1}}, nil, nil, []int{0, 1, 2}},
	} {
		x, one := impl.ParitySpace(c.p)
		loose, two := impl.LooseVars(c.p)
		if !one || !two || !sameSpace(x, impl.Space{States: c.states, Steps: c.steps}) || !slices.Equal(loose, c.loose) {
			t.Error("parity", c, x, loose)
		}
	}
	x, ok := impl.ParitySpace(impl.Parity{Vars: impl.MaxVars})
	if !ok || len(x.States) != 64 || len(x.Steps) != 192 {
		t.Error("no rows", len(x.States), len(x.Steps), ok)
	}
}

func TestLooseVars(t *testing.T) {
	all, none, between := 0, 0, 0
	for _, p := range someParities() {
		loose, ok := impl.LooseVars(p)
		want := setOf((1<<p.Vars - 1) &^ digitsFor(slices.Concat(p.Rows...)))
		if !ok || !slices.Equal(loose, want) {
			t.Fatal("loose", p, loose, ok, want)
		}
		switch {
		case p.Vars == 0:
		case len(loose) == 0:
			none++
		case len(loose) == p.Vars:
			all++
		default:
			between++
		}
	}
	if all < 10 || none < 100 || between < 100 {
		t.Error("too few of a sort", all, none, between)
	}
}

// TestWaysOfParities: there is one exactly if two solutions differ in loose variables alone, and
// then it is as long as their Hamming distance.
func TestWaysOfParities(t *testing.T) {
	random := rand.New(rand.NewSource(80))
	ways, none := 0, 0
	for _, p := range someParities() {
		x, one := impl.ParitySpace(p)
		f, two := impl.ParityFormula(p)
		loose, three := impl.LooseVars(p)
		table := distanceTable(x)
		for _, pair := range somePairs(len(x.States), random)[:min(len(x.States)*len(x.States), 30)] {
			a, b := x.States[pair[0]], x.States[pair[1]]
			apart, _ := impl.HammingOf(a, b)
			want, is := apart, true
			for _, v := range nodesApart(a, b) {
				if !slices.Contains(loose, v) {
					want, is = 0, false
				}
			}
			distance, ok := impl.FlipDistance(f, a, b)
			if !one || !two || !three || ok != is || distance != want || is != (table[pair[0]][pair[1]] >= 0) || is && table[pair[0]][pair[1]] != want {
				t.Fatal("way", p, a, b, distance, ok, want)
			}
			if is && apart > 0 {
				ways++
			}
			if !is {
				none++
			}
		}
	}
	if ways < 1000 || none < 1000 {
		t.Error("too few of a sort", ways, none)
	}
}
