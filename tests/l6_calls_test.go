package tests

import (
	"math"
	"slices"
	"testing"

	"loop.example/g01128/impl"
)

// farVars are no numbers of variables.
var farVars = []int{-1, 7, -6, 8, 64, 1 << 32, 1<<32 + 2, 1 << 40, math.MinInt, math.MinInt + 2, math.MaxInt}

// wayCalls returns a call of each function with two solutions.
func wayCalls(f impl.Formula, a []int, b []int) []aCall {
	return []aCall{
		{"FlipDistance", impl.FlipDistance, []any{f, a, b}},
		{"FlipWay", impl.FlipWay, []any{f, a, b}},
	}
}

// solutionCalls returns a call of each function with solutions.
func solutionCalls(f impl.Formula, a []int) []aCall {
	return append(wayCalls(f, a, a),
		aCall{"LowestOf", impl.LowestOf, []any{f, a}},
		aCall{"HighestOf", impl.HighestOf, []any{f, a}},
		aCall{"FlippableVars", impl.FlippableVars, []any{f, a}})
}

func isSolutionCall(f impl.Formula, a []int) aCall {
	return aCall{"IsSolution", impl.IsSolution, []any{f, a}}
}

func negateCall(f impl.Formula, vars []int) aCall {
	return aCall{"NegateVars", impl.NegateVars, []any{f, vars}}
}

func fixCall(f impl.Formula, v int, bit int) aCall {
	return aCall{"FixVar", impl.FixVar, []any{f, v, bit}}
}

func closedCall(f impl.Formula, op int) aCall {
	return aCall{"IsClosed", impl.IsClosed, []any{f, op}}
}

func hammingCall(a []int, b []int) aCall { return aCall{"HammingOf", impl.HammingOf, []any{a, b}} }

func formulaOfCall(vars int, list [][]int) aCall {
	return aCall{"FormulaOf", impl.FormulaOf, []any{vars, list}}
}

// formulaCalls returns a call of each function with a Formula alone or with an operation.
func formulaCalls(f impl.Formula) []aCall {
	calls := []aCall{{"FlipSpace", impl.FlipSpace, []any{f}}, {"ClassOf", impl.ClassOf, []any{f}}}
	for _, op := range allOps {
		calls = append(calls, closedCall(f, op))
	}
	return calls
}

// allFormulaCalls returns a call of each function with a Formula, but for IsFormula.
func allFormulaCalls(f impl.Formula, a []int, vars []int, v int, bit int) []aCall {
	return append(append(formulaCalls(f), solutionCalls(f, a)...), isSolutionCall(f, a), negateCall(f, vars), fixCall(f, v, bit))
}

func parityCalls(p impl.Parity) []aCall {
	return []aCall{
		{"ParitySpace", impl.ParitySpace, []any{p}},
		{"LooseVars", impl.LooseVars, []any{p}},
		{"ParityFormula", impl.ParityFormula, []any{p}},
	}
}

// badFormulas returns Formulas that are not valid, most of them for a single reason.
func badFormulas() []impl.Formula {
	type lists = [][]int
	formulas := []impl.Formula{}
	for _, vars := range farVars {
		formulas = append(formulas, impl.Formula{Vars: vars}, impl.Formula{Vars: vars, Clauses: lists{{}}}, impl.Formula{Vars: vars, Clauses: lists{{1}}}, impl.Formula{Vars: vars, Clauses: lists{{-1}}})
	}
	for _, clauses := range []lists{
		{{0}}, {{-1, 0}}, {{0, 1}}, {{-2, 0, 2}}, {{1}, {0}}, // no literal
		{{4}}, {{-4}}, {{1, 2, 3, 4}}, {{-4, -3, 1}}, {{}, {-1, 4}}, {{5}}, {{math.MaxInt}}, {{math.MinInt}}, {{math.MinInt + 1}}, {{1 << 32}}, {{1<<32 + 1}}, {{-1 << 32}}, {{-1<<32 - 1}}, // no variable
		{{1, 1}}, {{-1, -1}}, {{2, 1}}, {{1, -1}}, {{-1, -2}}, {{-1, 2, 1}}, {{1, 2, 2}}, {{1, 3, 2}}, {{1}, {2, 1}}, {{1, 2, 1}}, {slices.Repeat([]int{1}, 1000)}, // not ascending
	} {
		formulas = append(formulas, impl.Formula{Vars: 3, Clauses: clauses})
	}
	return append(formulas, impl.Formula{Clauses: lists{{0}}}, impl.Formula{Clauses: lists{{1}}}, impl.Formula{Clauses: lists{{-1}}},
		impl.Formula{Vars: impl.MaxVars, Clauses: lists{{7}}}, impl.Formula{Vars: impl.MaxVars, Clauses: lists{{-7}}}, impl.Formula{Vars: 1, Clauses: lists{{2}}},
		impl.Formula{Clauses: make([][]int, impl.MaxClauses+1)}, impl.Formula{Vars: 3, Clauses: slices.Repeat(lists{{-1, 1}}, impl.MaxClauses+1)}, impl.Formula{Vars: 3, Clauses: slices.Repeat(lists{{1}}, 1000)})
}

// TestFunctionsOfAssignmentsSucceed: without it, tests of failures might pass for wrong reasons.
func TestFunctionsOfAssignmentsSucceed(t *testing.T) {
	for _, f := range someFormulas() {
		calls := append(formulaCalls(f), negateCall(f, setOf(1<<f.Vars-1)))
		for _, a := range spread(solutionsOf(f), 3) {
			calls = append(calls, solutionCalls(f, a)...)
		}
		for _, a := range spread(bitsOf(f.Vars), 3) {
			calls = append(calls, isSolutionCall(f, a), hammingCall(a, a), formulaOfCall(f.Vars, [][]int{a, a}))
		}
		if f.Vars > 0 && len(f.Clauses) < impl.MaxClauses {
			calls = append(calls, fixCall(f, f.Vars-1, 0))
		}
		for _, c := range calls {
			if !c.succeeds() {
				t.Fatal("valid", f, c.name, c.arguments)
			}
		}
	}
	for _, p := range someParities() {
		for _, c := range parityCalls(p) {
			if !c.succeeds() {
				t.Fatal("valid", p, c.name)
			}
		}
	}
}

func TestFunctionsFailForOtherFormulas(t *testing.T) {
	lists := [][]int{nil, {}, {0}, {1}, {0, 1}, {1, 1}, {0, 0, 0}, {0, 1, 0}, {1, 1, 1}, {1, 0, 0, 1}, {0, 0, 0, 0, 0, 0}, {1, 1, 1, 1, 1, 1}, {0, 0, 0, 0, 0, 0, 0}, {1, 1, 1, 1, 1, 1, 1}, make([]int, 64)}
	for _, f := range badFormulas() {
		for _, a := range lists {
			failAll(t, allFormulaCalls(f, a, nil, 0, 1), "no Formula")
			failAll(t, wayCalls(f, a, []int{1, 1, 0}), "no Formula")
		}
		failAll(t, []aCall{negateCall(f, []int{0}), negateCall(f, []int{0, 1}), fixCall(f, 1, 0), fixCall(f, -1, 0), fixCall(f, f.Vars-1, 1)}, "no Formula")
	}
}

func TestFunctionsFailForOtherParities(t *testing.T) {
	for _, p := range badParities() {
		failAll(t, parityCalls(p), "no Parity")
	}
}

// notBits returns lists that are near to an assignment of n variables, but none.
func notBits(bits []int) [][]int {
	lists := [][]int{append(slices.Clone(bits), 0), append(slices.Clone(bits), 1), append([]int{0}, bits...), make([]int, impl.MaxVars+1), make([]int, 1000)}
	if len(bits) > 0 {
		lists = append(lists, nil, bits[1:], bits[:len(bits)-1])
	}
	for v := range bits {
		for _, far := range []int{-1, 2, 3, -2, 1 << 32, 1<<32 + 1, math.MinInt, math.MaxInt} {
			lists = append(lists, withColour(bits, v, far))
		}
	}
	return lists
}

func TestFunctionsFailForListsThatAreNoAssignments(t *testing.T) {
	for _, f := range slices.Concat(limitFormulas(), formulasOfSets(), randomFormulas(81, 20, anySort)) {
		for _, bits := range spread(bitsOf(f.Vars), 2) {
			for _, list := range notBits(bits) {
				failAll(t, append(solutionCalls(f, list), isSolutionCall(f, list)), "no assignment")
				for _, a := range spread(solutionsOf(f), 2) {
					failAll(t, append(wayCalls(f, a, list), wayCalls(f, list, a)...), "no assignment")
				}
			}
		}
	}
}

func TestFunctionsFailForAssignmentsThatAreNoSolutions(t *testing.T) {
	failed := 0
	for _, f := range someFormulas() {
		for _, other := range spread(nonSolutionsOf(f), 6) {
			failAll(t, solutionCalls(f, other), "no solution")
			for _, a := range spread(solutionsOf(f), 2) {
				failAll(t, append(wayCalls(f, a, other), wayCalls(f, other, a)...), "no solution")
				failed++
			}
		}
	}
	if failed < 1000 {
		t.Error("too few", failed)
	}
}

func TestHammingOfOtherLists(t *testing.T) {
	for n := range impl.MaxVars + 1 {
		for _, bits := range spread(bitsOf(n), 4) {
			for _, list := range notBits(bits) {
				failAll(t, []aCall{hammingCall(bits, list), hammingCall(list, bits)}, "no assignment")
			}
		}
	}
	for n := range 20 {
		ones := slices.Repeat([]int{1}, n)
		if c := hammingCall(ones, make([]int, n)); c.fails() != (n > 6) || c.succeeds() != (n <= 6) {
			t.Error("number of variables", n, c.results())
		}
		for _, far := range []int{-1, 2} {
			failAll(t, []aCall{hammingCall(slices.Repeat([]int{far}, n+1), slices.Repeat([]int{far}, n+1))}, "no numbers")
		}
	}
}

func TestFormulaOfOtherLists(t *testing.T) {
	for _, vars := range farVars {
		failAll(t, []aCall{formulaOfCall(vars, nil), formulaOfCall(vars, [][]int{{}}), formulaOfCall(vars, [][]int{{0}}), formulaOfCall(vars, [][]int{make([]int, 7)}), formulaOfCall(vars, [][]int{make([]int, 8)})}, "no number of variables")
	}
	for vars := range impl.MaxVars + 1 {
		all := bitsOf(vars)
		for _, list := range notBits(all[len(all)/2]) {
			for _, lists := range [][][]int{{list}, {all[0], list}, {list, all[0]}, append(slices.Clone(all), list)} {
				failAll(t, []aCall{formulaOfCall(vars, lists)}, "no assignment")
			}
		}
	}
}

func TestIsClosedForOtherOperations(t *testing.T) {
	for _, f := range append(limitFormulas(), formulasOfSets()...) {
		for _, op := range []int{0, 5, -1, 6, -4, 1 << 32, 1<<32 + 1, math.MinInt, math.MinInt + 1, math.MaxInt} {
			failAll(t, []aCall{closedCall(f, op)}, "no operation")
		}
	}
}

func TestNegateVarsOfOtherLists(t *testing.T) {
	for _, f := range append(limitFormulas(), randomFormulas(82, 20, anySort)...) {
		lists := [][]int{{f.Vars}, {-1}, {f.Vars + 1}, {impl.MaxVars}, {math.MinInt}, {math.MaxInt}, {1 << 32}, append(setOf(1<<f.Vars-1), f.Vars), append([]int{-1}, setOf(1<<f.Vars-1)...), make([]int, 1000)}
		for v := range f.Vars {
			lists = append(lists, []int{v, v}, []int{v, 0}, []int{-1, v}, []int{v, f.Vars}, []int{v, math.MinInt}, append(setOf(1<<f.Vars-1), v))
		}
		for _, vars := range lists {
			failAll(t, []aCall{negateCall(f, vars)}, "no list of variables")
		}
	}
}

func TestFixVarOfOtherVarsAndNumbers(t *testing.T) {
	for _, f := range append(limitFormulas(), randomFormulas(83, 20, anySort)...) {
		for _, v := range []int{-1, f.Vars, f.Vars + 1, impl.MaxVars, -f.Vars - 1, 1 << 32, math.MinInt, math.MaxInt} {
			failAll(t, []aCall{fixCall(f, v, 0), fixCall(f, v, 1), fixCall(f, v, 2), fixCall(f, v, -1)}, "no variable")
		}
		for v := range f.Vars {
			for _, bit := range []int{-1, 2, 3, 1 << 32, 1<<32 + 1, math.MinInt, math.MaxInt} {
				failAll(t, []aCall{fixCall(f, v, bit)}, "no number")
			}
			if len(f.Clauses) == impl.MaxClauses {
				failAll(t, []aCall{fixCall(f, v, 0), fixCall(f, v, 1)}, "too many clauses")
			}
		}
	}
}

func TestFunctionsOfAssignmentsKeepMemoryApart(t *testing.T) {
	for _, f := range slices.Concat(limitFormulas(), formulasOfSets()[:60], randomFormulas(84, 20, anySort), badFormulas()) {
		bits := [][]int{{}, {1, 0, 1}}
		if impl.IsFormula(f) {
			bits = append(spread(solutionsOf(f), 3), spread(nonSolutionsOf(f), 2)...)
		}
		calls := append(formulaCalls(f), fixCall(f, 0, 1), fixCall(f, 1, 0), closedCall(f, 5), aCall{"IsFormula", impl.IsFormula, []any{f}})
		for _, vars := range [][]int{{}, {0}, {0, 1}, {1, 0}, {0, 2}, firstNumbers(f.Vars)} {
			calls = append(calls, negateCall(f, vars))
		}
		for _, a := range bits {
			calls = append(calls, append(solutionCalls(f, a), isSolutionCall(f, a))...)
			for _, b := range bits {
				calls = append(append(calls, wayCalls(f, a, b)...), hammingCall(a, b), formulaOfCall(f.Vars, [][]int{b, a, b}))
			}
		}
		for _, c := range calls {
			checkMemory(t, c)
		}
	}
	for _, p := range slices.Concat(limitParities(), randomParities(20), badParities()) {
		for _, c := range append(parityCalls(p), aCall{"IsParity", impl.IsParity, []any{p}}) {
			checkMemory(t, c)
		}
	}
	for vars := range impl.MaxVars + 1 {
		for _, list := range [][][]int{nil, bitsOf(vars), spread(bitsOf(vars), 5), {{0}, {1, 2}}} {
			checkMemory(t, formulaOfCall(vars, list))
		}
	}
}

func TestNilAndEmptyListsOfAssignmentsAreEquivalent(t *testing.T) {
	for _, clauses := range [][][]int{nil, {}} {
		f := impl.Formula{Clauses: clauses}
		for _, a := range [][]int{nil, {}} {
			for _, b := range [][]int{nil, {}} {
				calls := append(wayCalls(f, a, b), formulaOfCall(0, [][]int{a, b}), hammingCall(a, b), negateCall(f, b))
				for _, c := range append(calls, append(solutionCalls(f, a), isSolutionCall(f, a))...) {
					if !c.succeeds() {
						t.Error("no variables", c.name)
					}
				}
			}
		}
	}
	// A clause without literals is never met, whether it is nil or not.
	for _, clauses := range [][][]int{{nil}, {{}}, {nil, {}}} {
		for vars := range impl.MaxVars + 1 {
			f := impl.Formula{Vars: vars, Clauses: clauses}
			x, ok := impl.FlipSpace(f)
			if is, fine := impl.IsSolution(f, make([]int, vars)); is || !fine || !ok || len(x.States) > 0 {
				t.Error("no literals", f, is, fine, x, ok)
			}
			failAll(t, solutionCalls(f, make([]int, vars)), "no solution")
		}
	}
	for _, p := range []impl.Parity{{Vars: 2, Rows: [][]int{}, Right: nil}, {Vars: 2, Rows: nil, Right: []int{}}, {Vars: 2, Rows: [][]int{nil}, Right: []int{0}}} {
		x, one := impl.ParitySpace(p)
		loose, two := impl.LooseVars(p)
		if !impl.IsParity(p) || !one || !two || len(x.States) != 4 || !slices.Equal(loose, []int{0, 1}) {
			t.Error("no rows", p, x, loose)
		}
	}
}
