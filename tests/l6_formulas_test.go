package tests

import (
	"math"
	"math/rand"
	"reflect"
	"slices"
	"testing"

	"loop.example/g01128/impl"
)

func TestLimitsOfAssignments(t *testing.T) {
	limits := []int{impl.MaxVars, impl.MaxClauses, impl.MaxRows, impl.OpMajority, impl.OpAnd, impl.OpOr, impl.OpSum}
	if !slices.Equal(limits, []int{6, 64, 6, 1, 2, 3, 4}) {
		t.Error("limits", limits)
	}
}

// bitsOf returns all assignments of n variables, in order.
func bitsOf(n int) [][]int {
	if n == 0 {
		return [][]int{{}}
	}
	all := [][]int{}
	for _, bits := range bitsOf(n - 1) {
		all = append(all, append(slices.Clone(bits), 0), append(slices.Clone(bits), 1))
	}
	return all
}

// metBy returns the literals that an assignment meets.
func metBy(bits []int) []int {
	literals := []int{}
	for v, number := range bits {
		literals = append(literals, []int{-1 - v, v + 1}[number])
	}
	return literals
}

func isSolutionOf(f impl.Formula, bits []int) bool {
	met := metBy(bits)
	for _, clause := range f.Clauses {
		if len(slices.DeleteFunc(slices.Clone(met), func(literal int) bool { return !slices.Contains(clause, literal) })) == 0 {
			return false
		}
	}
	return true
}

func solutionsOf(f impl.Formula) [][]int {
	return slices.DeleteFunc(bitsOf(f.Vars), func(bits []int) bool { return !isSolutionOf(f, bits) })
}

func nonSolutionsOf(f impl.Formula) [][]int {
	return slices.DeleteFunc(bitsOf(f.Vars), func(bits []int) bool { return isSolutionOf(f, bits) })
}

// flipsOf returns the Space of some assignments, with a step for each flip.
func flipsOf(states [][]int) impl.Space {
	return impl.Space{States: states, Steps: stepsWhere(len(states), func(i int, j int) bool { return isChange(states[i], states[j]) })}
}

// clausesOf returns all clauses of n variables, those with a literal and its opposite included.
func clausesOf(n int) [][]int {
	literals := []int{}
	for literal := -n; literal <= n; literal++ {
		if literal != 0 {
			literals = append(literals, literal)
		}
	}
	clauses := [][]int{}
	for digits := range 1 << len(literals) {
		clause := []int{}
		for _, k := range setOf(digits) {
			clause = append(clause, literals[k])
		}
		clauses = append(clauses, clause)
	}
	return clauses
}

// smallFormulas has all lists of few clauses, in any order and with repeated ones.
func smallFormulas() []impl.Formula {
	formulas := []impl.Formula{}
	for vars, most := range []int{4, 3, 2} {
		clauses := clausesOf(vars)
		everyList(most, 0, len(clauses)-1, func(list []int) {
			f := impl.Formula{Vars: vars}
			for _, k := range list {
				f.Clauses = append(f.Clauses, clauses[k])
			}
			formulas = append(formulas, f)
		})
	}
	return formulas
}

// randomClause returns a clause of at most most literals, with at most so many greater and less
// than 0.
func randomClause(random *rand.Rand, vars int, most int, greater int, less int) []int {
	clause := []int{}
	for range 1 + random.Intn(most) {
		literal := 1 + random.Intn(vars)
		if random.Intn(2) == 0 {
			literal = -literal
		}
		switch {
		case slices.Contains(clause, literal):
		case literal > 0 && greater > 0:
			greater--
			clause = append(clause, literal)
		case literal < 0 && less > 0:
			less--
			clause = append(clause, literal)
		}
	}
	slices.Sort(clause)
	return clause
}

// formulaSort tells what the clauses of random Formulas may be like.
type formulaSort struct{ most, greater, less int }

var (
	anySort  = formulaSort{6, 6, 6}
	twoSort  = formulaSort{2, 2, 2}
	hornSort = formulaSort{5, 1, 5}
	dualSort = formulaSort{5, 5, 1}
)

// randomFormulas returns Formulas with 2 to MaxVars variables of a sort, many of them with
// solutions in several parts.
func randomFormulas(seed int64, number int, sort formulaSort) []impl.Formula {
	random := rand.New(rand.NewSource(seed))
	formulas := []impl.Formula{}
	for len(formulas) < number {
		f := impl.Formula{Vars: 2 + random.Intn(impl.MaxVars-1)}
		for range 1 + random.Intn(3*f.Vars) {
			// An empty clause would leave no solutions.
			if clause := randomClause(random, f.Vars, sort.most, sort.greater, sort.less); len(clause) > 0 {
				f.Clauses = append(f.Clauses, clause)
			}
		}
		all := solutionsOf(f)
		if len(all) > 0 && !isOnePart(flipsOf(all)) || random.Intn(8) == 0 {
			formulas = append(formulas, f)
		}
	}
	return formulas
}

// formulaFor returns the Formula with a clause for each assignment that is not in a list.
func formulaFor(vars int, solutions [][]int) impl.Formula {
	f := impl.Formula{Vars: vars}
	for _, bits := range bitsOf(vars) {
		if indexOf(solutions, bits) >= 0 {
			continue
		}
		clause := []int{}
		for _, literal := range metBy(bits) {
			clause = append(clause, -literal)
		}
		slices.Sort(clause)
		f.Clauses = append(f.Clauses, clause)
	}
	return f
}

// formulasOfSets returns a Formula for each set of assignments of at most 3 variables.
func formulasOfSets() []impl.Formula {
	formulas := []impl.Formula{}
	for vars := range 4 {
		all := bitsOf(vars)
		for digits := range 1 << len(all) {
			set := [][]int{}
			for _, k := range setOf(digits) {
				set = append(set, all[k])
			}
			formulas = append(formulas, formulaFor(vars, set))
		}
	}
	return formulas
}

// limitFormulas are at the limits: as many variables and clauses as there may be.
func limitFormulas() []impl.Formula {
	repeated := slices.Repeat([][]int{{-6, -5, -4, -3, -2, -1, 1, 2, 3, 4, 5, 6}}, impl.MaxClauses)
	return []impl.Formula{
		{}, {Vars: 1}, {Vars: impl.MaxVars}, {Vars: 0, Clauses: make([][]int, impl.MaxClauses)}, {Vars: impl.MaxVars, Clauses: [][]int{{}}},
		{Vars: impl.MaxVars, Clauses: repeated}, {Vars: impl.MaxVars, Clauses: append(slices.Clone(repeated[1:]), []int{6})},
		formulaFor(impl.MaxVars, nil), formulaFor(impl.MaxVars, bitsOf(impl.MaxVars)), formulaFor(impl.MaxVars, [][]int{{1, 0, 1, 1, 0, 0}}),
		{Vars: 1, Clauses: slices.Repeat([][]int{{-1}}, impl.MaxClauses)}, {Vars: impl.MaxVars, Clauses: [][]int{{-6, 1}, {-1, 6}, {-6, 1}}},
	}
}

// someFormulas are of all sorts.
func someFormulas() []impl.Formula {
	return slices.Concat(smallFormulas(), formulasOfSets(), limitFormulas(),
		randomFormulas(61, 60, anySort), randomFormulas(62, 60, twoSort), randomFormulas(63, 60, hornSort), randomFormulas(64, 60, dualSort))
}

func isClauseOf(vars int, clause []int) bool {
	for k, literal := range clause {
		if literal == 0 || literal > vars || literal < -vars || k > 0 && clause[k-1] >= literal {
			return false
		}
	}
	return true
}

func TestIsFormula(t *testing.T) {
	for _, f := range someFormulas() {
		if !impl.IsFormula(f) {
			t.Fatal("valid", f)
		}
	}
	counts := map[bool]int{}
	for vars := range 4 {
		everyList(4, -3, 3, func(clause []int) {
			want := isClauseOf(vars, clause)
			counts[want]++
			for _, f := range []impl.Formula{{Vars: vars, Clauses: [][]int{clause}}, {Vars: vars, Clauses: [][]int{{}, clause}}, {Vars: vars, Clauses: [][]int{clause, {}}}} {
				if impl.IsFormula(f) != want {
					t.Fatal("clause", f, want)
				}
			}
		})
	}
	if counts[true] < 30 || counts[false] < 1000 {
		t.Error("too few of a sort", counts)
	}
	for _, f := range badFormulas() {
		if impl.IsFormula(f) {
			t.Error("not valid", f)
		}
	}
}

// TestIsFormulaForNumbersOfVars: with the literals of one variable more or less.
func TestIsFormulaForNumbersOfVars(t *testing.T) {
	for vars := -3; vars <= impl.MaxVars+3; vars++ {
		is := 0 <= vars && vars <= impl.MaxVars
		for _, literal := range []int{0, 1, -1, vars - 1, vars, vars + 1, 1 - vars, -vars, -1 - vars, math.MinInt, math.MinInt + 1, math.MaxInt} {
			want := is && literal != 0 && -vars <= literal && literal <= vars
			if impl.IsFormula(impl.Formula{Vars: vars, Clauses: [][]int{{literal}}}) != want {
				t.Error("literal", vars, literal, want)
			}
		}
		for _, clauses := range [][][]int{nil, {}, {{}}, {nil}, {nil, nil}} {
			if impl.IsFormula(impl.Formula{Vars: vars, Clauses: clauses}) != is {
				t.Error("number of variables", vars, clauses)
			}
		}
	}
}

func TestIsFormulaForNumbersOfClauses(t *testing.T) {
	for n := range impl.MaxClauses + 3 {
		for _, clause := range [][]int{{}, {-1, 1}, {2}} {
			if impl.IsFormula(impl.Formula{Vars: 2, Clauses: slices.Repeat([][]int{clause}, n)}) != (n <= 64) {
				t.Error("number of clauses", n, clause)
			}
		}
	}
}

func TestIsSolutionAndFlipSpace(t *testing.T) {
	steps, one, several := 0, 0, 0
	for _, f := range someFormulas() {
		for _, bits := range bitsOf(f.Vars) {
			if is, ok := impl.IsSolution(f, bits); !ok || is != isSolutionOf(f, bits) {
				t.Fatal("solution", f, bits, is, ok)
			}
		}
		x, ok := impl.FlipSpace(f)
		want := flipsOf(solutionsOf(f))
		if !ok || !impl.IsSpace(x) || !sameSpace(x, want) {
			t.Fatal("flip space", f, x, ok, want)
		}
		steps += len(x.Steps)
		if isOnePart(want) {
			one++
		} else if len(want.States) > 0 {
			several++
		}
	}
	if steps < 1000 || one < 100 || several < 100 {
		t.Error("too few of a sort", steps, one, several)
	}
}

func TestSolutionsOfExamples(t *testing.T) {
	type lists = [][]int
	for _, c := range []struct {
		f      impl.Formula
		states lists
		steps  [][2]int
	}{
		{impl.Formula{}, lists{{}}, nil},
		{impl.Formula{Clauses: lists{{}}}, nil, nil},
		{impl.Formula{Vars: 1}, lists{{0}, {1}}, [][2]int{{0, 1}}},
		{impl.Formula{Vars: 1, Clauses: lists{{-1, 1}}}, lists{{0}, {1}}, [][2]int{{0, 1}}},
		{impl.Formula{Vars: 1, Clauses: lists{{1}}}, lists{{1}}, nil},
		{impl.Formula{Vars: 1, Clauses: lists{{-1}, {-1}}}, lists{{0}}, nil},
		{impl.Formula{Vars: 1, Clauses: lists{{-1}, {1}}}, nil, nil},
		{impl.Formula{Vars: 2, Clauses: lists{{2}}}, lists{{0, 1}, {1, 1}}, [][2]int{{0, 1}}},
		{impl.Formula{Vars: 2, Clauses: lists{{-1, 2}, {-2, 1}}}, lists{{0, 0}, {1, 1}}, nil},
		{impl.Formula{Vars: 3, Clauses: lists{{1, 2, 3}, {-3, -2, -1}}}, lists{{0, 0, 1}, {0, 1, 0}, {0, 1, 1}, {1, 0, 0}, {1, 0, 1}, {1, 1, 0}}, [][2]int{{0, 2}, {0, 4}, {1, 2}, {1, 5}, {3, 4}, {3, 5}}},
		{impl.Formula{Vars: 3, Clauses: lists{{-3}, {-2, 1}}}, lists{{0, 0, 0}, {1, 0, 0}, {1, 1, 0}}, [][2]int{{0, 1}, {1, 2}}},
	} {
		if x, ok := impl.FlipSpace(c.f); !ok || !sameSpace(x, impl.Space{States: c.states, Steps: c.steps}) {
			t.Error("flip space", c, x, ok)
		}
	}
	x, ok := impl.FlipSpace(impl.Formula{Vars: impl.MaxVars})
	if !ok || len(x.States) != 64 || len(x.Steps) != 192 || !isOnePart(x) {
		t.Error("all assignments", len(x.States), len(x.Steps), ok)
	}
}

// classOf counts the literals of each sign.
func classOf(f impl.Formula) [3]bool {
	class := [3]bool{true, true, true}
	for _, clause := range f.Clauses {
		firstGreater, _ := slices.BinarySearch(clause, 0)
		class[0] = class[0] && len(clause) < 3
		class[1] = class[1] && len(clause[firstGreater:]) < 2
		class[2] = class[2] && len(clause[:firstGreater]) < 2
	}
	return class
}

func TestClassOf(t *testing.T) {
	counts := map[[3]bool]int{}
	for _, f := range slices.Concat(someFormulas(), randomFormulas(65, 300, formulaSort{3, 2, 1}), randomFormulas(66, 300, formulaSort{3, 1, 2})) {
		two, horn, dual, ok := impl.ClassOf(f)
		if !ok || [3]bool{two, horn, dual} != classOf(f) {
			t.Fatal("class", f, two, horn, dual, ok)
		}
		counts[classOf(f)]++
	}
	for digits := range 8 {
		// A Formula that is Horn and dual Horn has no more than two literals in a clause.
		class := [3]bool{digits&1 > 0, digits&2 > 0, digits&4 > 0}
		if digits != 6 && counts[class] == 0 || digits == 6 && counts[class] > 0 {
			t.Error("a class", class, counts)
		}
	}
}

func TestClassOfExamples(t *testing.T) {
	for _, c := range []struct {
		clauses         [][]int
		two, horn, dual bool
	}{
		{nil, true, true, true}, {[][]int{{}}, true, true, true}, {[][]int{{1}, {-2}, {-3, 3}}, true, true, true},
		{[][]int{{1, 2}}, true, false, true}, {[][]int{{-2, -1}}, true, true, false}, {[][]int{{1, 2}, {-2, -1}}, true, false, false},
		{[][]int{{-3, -2, 1}}, false, true, false}, {[][]int{{-3, 1, 2}}, false, false, true}, {[][]int{{-3, -2, -1}}, false, true, false}, {[][]int{{1, 2, 3}}, false, false, true},
		{[][]int{{-2, -1, 1, 2}}, false, false, false}, {[][]int{{1, 2, 3}, {-1}, {-3, -2, -1}}, false, false, false},
		{[][]int{{-1, 1}, {-2, 1}, {1, 2, 3}}, false, false, true},
	} {
		two, horn, dual, ok := impl.ClassOf(impl.Formula{Vars: 3, Clauses: c.clauses})
		if !ok || two != c.two || horn != c.horn || dual != c.dual {
			t.Error("class", c, two, horn, dual, ok)
		}
	}
}

// isClosedUnder calculates with the numbers whose binary digits the assignments are.
func isClosedUnder(solutions [][]int, op int) bool {
	numbers, has := []int{}, map[int]bool{}
	for _, bits := range solutions {
		number := 0
		for _, bit := range bits {
			number = 2*number + bit
		}
		numbers, has[number] = append(numbers, number), true
	}
	for _, a := range numbers {
		for _, b := range numbers {
			if op == impl.OpAnd && !has[a&b] || op == impl.OpOr && !has[a|b] {
				return false
			}
			for _, c := range numbers {
				if op == impl.OpMajority && !has[a&b|a&c|b&c] || op == impl.OpSum && !has[a^b^c] {
					return false
				}
			}
		}
	}
	return true
}

var allOps = []int{impl.OpMajority, impl.OpAnd, impl.OpOr, impl.OpSum}

func TestIsClosed(t *testing.T) {
	counts := map[int]map[bool]int{}
	for _, op := range allOps {
		counts[op] = map[bool]int{}
		for _, f := range someFormulas() {
			want := isClosedUnder(solutionsOf(f), op)
			if is, ok := impl.IsClosed(f, op); !ok || is != want {
				t.Fatal("closed", f, op, is, ok)
			}
			counts[op][want]++
		}
		if counts[op][true] < 100 || counts[op][false] < 50 {
			t.Error("too few of a sort", op, counts)
		}
	}
}

func TestIsClosedForExamples(t *testing.T) {
	for _, c := range []struct {
		vars      int
		solutions [][]int
		closed    [4]bool // under OpMajority, OpAnd, OpOr, OpSum
	}{
		{3, nil, [4]bool{true, true, true, true}}, {0, [][]int{{}}, [4]bool{true, true, true, true}}, {3, [][]int{{0, 1, 0}}, [4]bool{true, true, true, true}},
		{3, bitsOf(3), [4]bool{true, true, true, true}}, {6, bitsOf(6), [4]bool{true, true, true, true}},
		{2, [][]int{{0, 1}, {1, 0}}, [4]bool{true, false, false, true}}, {2, [][]int{{0, 0}, {1, 1}}, [4]bool{true, true, true, true}},
		{2, [][]int{{0, 0}, {0, 1}, {1, 0}}, [4]bool{true, true, false, false}}, {2, [][]int{{0, 1}, {1, 0}, {1, 1}}, [4]bool{true, false, true, false}},
		{3, [][]int{{0, 0, 1}, {0, 1, 0}, {1, 0, 0}}, [4]bool{false, false, false, false}},
		{3, [][]int{{0, 0, 1}, {0, 1, 0}, {1, 0, 0}, {1, 1, 1}}, [4]bool{false, false, false, true}},
		{3, [][]int{{0, 0, 0}, {0, 1, 1}, {1, 0, 1}, {1, 1, 0}}, [4]bool{false, false, false, true}},
		// The majority of all three is in none of the other two.
		{3, [][]int{{0, 0, 0}, {0, 0, 1}, {0, 1, 0}, {1, 0, 0}, {0, 1, 1}, {1, 0, 1}, {1, 1, 0}}, [4]bool{false, true, false, false}},
		{3, [][]int{{0, 0, 1}, {0, 1, 0}, {1, 0, 0}, {0, 1, 1}, {1, 0, 1}, {1, 1, 0}, {1, 1, 1}}, [4]bool{false, false, true, false}},
	} {
		f := formulaFor(c.vars, c.solutions)
		for k, op := range allOps {
			if is, ok := impl.IsClosed(f, op); !ok || is != c.closed[k] {
				t.Error("closed", c, op, is, ok)
			}
		}
	}
}

// TestSolutionsOfAClassAreClosed: of two under OpMajority, Horn under OpAnd, dual Horn under OpOr.
func TestSolutionsOfAClassAreClosed(t *testing.T) {
	counts := [3]int{}
	for _, f := range slices.Concat(someFormulas(), randomFormulas(67, 200, twoSort), randomFormulas(68, 100, hornSort), randomFormulas(69, 100, dualSort)) {
		two, horn, dual, _ := impl.ClassOf(f)
		for k, is := range []bool{two, horn, dual} {
			if !is {
				continue
			}
			if closed, ok := impl.IsClosed(f, allOps[k]); !ok || !closed || !isClosedUnder(solutionsOf(f), allOps[k]) {
				t.Fatal("not closed", f, allOps[k], closed, ok)
			}
			if len(solutionsOf(f)) > 3 {
				counts[k]++
			}
		}
	}
	if slices.Min(counts[:]) < 100 {
		t.Error("too few of a sort", counts)
	}
}

func TestHammingOf(t *testing.T) {
	for n := range impl.MaxVars + 1 {
		for _, a := range bitsOf(n) {
			for _, b := range bitsOf(n) {
				if distance, ok := impl.HammingOf(a, b); !ok || distance != len(nodesApart(a, b)) {
					t.Fatal("distance", a, b, distance, ok)
				}
			}
		}
	}
	if distance, ok := impl.HammingOf([]int{1, 0, 1, 0, 1, 0}, []int{0, 1, 0, 1, 0, 1}); !ok || distance != 6 {
		t.Error("all variables", distance, ok)
	}
}

func sameFormula(f impl.Formula, g impl.Formula) bool {
	return f.Vars == g.Vars && sameLists(f.Clauses, g.Clauses)
}

// checkFormulaOf checks the Formula of a list, and its solutions.
func checkFormulaOf(t *testing.T, vars int, list [][]int) {
	t.Helper()
	f, ok := impl.FormulaOf(vars, list)
	if !ok || !impl.IsFormula(f) || !sameFormula(f, formulaFor(vars, list)) {
		t.Fatal("formula", vars, list, f, ok)
	}
	want := slices.Clone(list)
	slices.SortFunc(want, slices.Compare[[]int])
	want = slices.CompactFunc(want, slices.Equal[[]int])
	if x, fine := impl.FlipSpace(f); !fine || !sameLists(x.States, want) || !sameLists(solutionsOf(f), want) {
		t.Fatal("solutions", vars, list, f, x.States)
	}
}

func TestFormulaOf(t *testing.T) {
	random := rand.New(rand.NewSource(70))
	for _, f := range formulasOfSets() {
		checkFormulaOf(t, f.Vars, solutionsOf(f))
		// In another order, and with an assignment twice.
		other := solutionsOf(f)
		slices.Reverse(other)
		if len(other) > 0 {
			checkFormulaOf(t, f.Vars, append(other, other[random.Intn(len(other))]))
		}
	}
	for vars := range impl.MaxVars + 1 {
		all := bitsOf(vars)
		checkFormulaOf(t, vars, nil)
		checkFormulaOf(t, vars, all)
		checkFormulaOf(t, vars, append(all, all...))
		checkFormulaOf(t, vars, slices.Repeat([][]int{all[len(all)-1]}, 1000))
		for range 20 {
			list := [][]int{}
			for range random.Intn(2 * len(all)) {
				list = append(list, all[random.Intn(len(all))])
			}
			checkFormulaOf(t, vars, list)
		}
	}
}

func TestFormulaOfExamples(t *testing.T) {
	type lists = [][]int
	for _, c := range []struct {
		vars          int
		list, clauses lists
	}{
		{0, nil, lists{{}}}, {0, lists{{}}, nil}, {0, lists{nil, {}}, nil},
		{1, nil, lists{{1}, {-1}}}, {1, lists{{1}}, lists{{1}}}, {1, lists{{0}}, lists{{-1}}}, {1, lists{{1}, {0}}, nil},
		{2, lists{{1, 0}, {0, 1}}, lists{{1, 2}, {-2, -1}}}, {2, lists{{1, 1}, {0, 0}, {1, 1}}, lists{{-2, 1}, {-1, 2}}},
		{3, lists{{0, 0, 0}, {0, 1, 0}, {1, 0, 1}, {1, 1, 1}}, lists{{-3, 1, 2}, {-3, -2, 1}, {-1, 2, 3}, {-2, -1, 3}}},
	} {
		if f, ok := impl.FormulaOf(c.vars, c.list); !ok || !sameFormula(f, impl.Formula{Vars: c.vars, Clauses: c.clauses}) {
			t.Error("formula", c, f, ok)
		}
	}
	f, ok := impl.FormulaOf(impl.MaxVars, nil)
	if !ok || len(f.Clauses) != impl.MaxClauses || len(solutionsOf(f)) > 0 {
		t.Error("no solutions", len(f.Clauses), ok)
	}
}

// negatedBits returns the assignment with the other numbers for some variables.
func negatedBits(bits []int, vars []int) []int {
	negated := slices.Clone(bits)
	for _, v := range vars {
		negated[v] ^= 1
	}
	return negated
}

// negatedFormula writes each clause anew, in ascending order.
func negatedFormula(f impl.Formula, vars []int) impl.Formula {
	negated := impl.Formula{Vars: f.Vars}
	for _, clause := range f.Clauses {
		other := []int{}
		for literal := -f.Vars; literal <= f.Vars; literal++ {
			from := literal
			if slices.Contains(vars, max(literal, -literal)-1) {
				from = -literal
			}
			if slices.Contains(clause, from) {
				other = append(other, literal)
			}
		}
		negated.Clauses = append(negated.Clauses, other)
	}
	return negated
}

func TestNegateVars(t *testing.T) {
	for _, f := range someFormulas() {
		for digits := 0; digits < 1<<f.Vars; digits += 1 + f.Vars/3*5 {
			vars := setOf(digits)
			negated, ok := impl.NegateVars(f, vars)
			if !ok || !impl.IsFormula(negated) || !sameFormula(negated, negatedFormula(f, vars)) {
				t.Fatal("negated", f, vars, negated, ok)
			}
			for _, bits := range bitsOf(f.Vars) {
				if is, _ := impl.IsSolution(negated, negatedBits(bits, vars)); is != isSolutionOf(f, bits) {
					t.Fatal("solution", f, vars, bits, is)
				}
			}
			if back, fine := impl.NegateVars(negated, vars); !fine || !sameFormula(back, f) {
				t.Fatal("and back", f, vars, back)
			}
		}
	}
}

func TestNegateVarsOfExamples(t *testing.T) {
	type lists = [][]int
	f := impl.Formula{Vars: 3, Clauses: lists{{-3, 1, 2}, {}, {-1, 1}, {-2}, {-3, -2, 1, 3}, {-2}}}
	for _, c := range []struct {
		vars    []int
		clauses lists
	}{
		{nil, f.Clauses}, {[]int{0}, lists{{-3, -1, 2}, {}, {-1, 1}, {-2}, {-3, -2, -1, 3}, {-2}}},
		{[]int{1}, lists{{-3, -2, 1}, {}, {-1, 1}, {2}, {-3, 1, 2, 3}, {2}}}, {[]int{0, 2}, lists{{-1, 2, 3}, {}, {-1, 1}, {-2}, {-3, -2, -1, 3}, {-2}}},
		{[]int{0, 1, 2}, lists{{-2, -1, 3}, {}, {-1, 1}, {2}, {-3, -1, 2, 3}, {2}}},
	} {
		if negated, ok := impl.NegateVars(f, c.vars); !ok || !sameFormula(negated, impl.Formula{Vars: 3, Clauses: c.clauses}) {
			t.Error("negated", c, negated, ok)
		}
	}
}

// TestNegatingAllVarsExchangesHornAndDualHorn: in both directions, and keeps those of two.
func TestNegatingAllVarsExchangesHornAndDualHorn(t *testing.T) {
	horns, duals := 0, 0
	for _, f := range someFormulas() {
		negated, ok := impl.NegateVars(f, setOf(1<<f.Vars-1))
		two, horn, dual, _ := impl.ClassOf(f)
		three, four, five, fine := impl.ClassOf(negated)
		if !ok || !fine || three != two || four != dual || five != horn {
			t.Fatal("classes", f, negated, three, four, five)
		}
		if horn && !dual {
			horns++
		}
		if dual && !horn {
			duals++
		}
	}
	if horns < 50 || duals < 50 {
		t.Error("too few of a sort", horns, duals)
	}
}

func TestFixVar(t *testing.T) {
	for _, f := range someFormulas() {
		for v := range f.Vars {
			for bit := range 2 {
				fixed, ok := impl.FixVar(f, v, bit)
				if len(f.Clauses) == impl.MaxClauses {
					if ok {
						t.Fatal("too many clauses", f, v, bit)
					}
					continue
				}
				want := impl.Formula{Vars: f.Vars, Clauses: append(slices.Clone(f.Clauses), []int{(v + 1) * (2*bit - 1)})}
				if !ok || !impl.IsFormula(fixed) || !sameFormula(fixed, want) {
					t.Fatal("fixed", f, v, bit, fixed, ok)
				}
				left := slices.DeleteFunc(solutionsOf(f), func(bits []int) bool { return bits[v] != bit })
				if x, fine := impl.FlipSpace(fixed); !fine || !sameLists(x.States, left) {
					t.Fatal("solutions", f, v, bit, x.States, left)
				}
			}
		}
	}
}

// TestFixVarWhereItHasAClauseAlready: the clause comes again, or its opposite beside it.
func TestFixVarWhereItHasAClauseAlready(t *testing.T) {
	f := impl.Formula{Vars: 2, Clauses: [][]int{{-1}, {1, 2}}}
	same, one := impl.FixVar(f, 0, 0)
	other, two := impl.FixVar(f, 0, 1)
	if !one || !two || !reflect.DeepEqual(same.Clauses, [][]int{{-1}, {1, 2}, {-1}}) || !reflect.DeepEqual(other.Clauses, [][]int{{-1}, {1, 2}, {1}}) {
		t.Error("fixed", same, other)
	}
	x, _ := impl.FlipSpace(same)
	y, ok := impl.FlipSpace(other)
	if !ok || !sameLists(x.States, [][]int{{0, 1}}) || len(y.States) > 0 {
		t.Error("solutions", x, y)
	}
}

func TestFixVarUpToMaxClauses(t *testing.T) {
	f := impl.Formula{Vars: 2}
	for n := range impl.MaxClauses {
		fixed, ok := impl.FixVar(f, n%2, 1)
		if !ok || len(fixed.Clauses) != n+1 {
			t.Fatal("fixed", n, fixed, ok)
		}
		f = fixed
	}
	failAll(t, []aCall{{"FixVar", impl.FixVar, []any{f, 0, 1}}, {"FixVar", impl.FixVar, []any{f, 1, 0}}}, "MaxClauses clauses")
}
