package tests

import (
	"math"
	"math/rand"
	"slices"
	"testing"

	"loop.example/g01128/impl"
)

// costWayCalls returns a call of each function with weights and a way.
func costWayCalls(x impl.Space, weights []int, prices []int, way []int) []aCall {
	return []aCall{{"WayCost", impl.WayCost, []any{x, weights, way}}, {"IsCostProof", impl.IsCostProof, []any{x, weights, prices, way}}}
}

func peakCall(x impl.Space, heights []int, way []int) aCall {
	return aCall{"PeakOf", impl.PeakOf, []any{x, heights, way}}
}

func costsFromCall(x impl.Space, weights []int, i int) aCall {
	return aCall{"CostsFrom", impl.CostsFrom, []any{x, weights, i}}
}

// placeCalls returns a call of each function with two places.
func placeCalls(x impl.Space, weights []int, heights []int, i int, j int) []aCall {
	return []aCall{{"CheapestWay", impl.CheapestWay, []any{x, weights, i, j}}, {"LeastPeak", impl.LeastPeak, []any{x, heights, i, j}}, {"LowWay", impl.LowWay, []any{x, heights, i, j}}}
}

func fairCall(x impl.Space, weights []int, prices []int) aCall {
	return aCall{"AreFairPrices", impl.AreFairPrices, []any{x, weights, prices}}
}

// loadCalls returns a call of each function with weights or heights, but with no places or prices.
func loadCalls(x impl.Space, weights []int, heights []int) []aCall {
	return []aCall{{"CheapTree", impl.CheapTree, []any{x, weights}}, {"MergeHeights", impl.MergeHeights, []any{x, heights}}, {"LevelSpace", impl.LevelSpace, []any{x, heights, impl.MaxLoad}}}
}

// callsAt returns a call of each function with weights, heights or prices, all of them at a place.
func callsAt(x impl.Space, weights []int, heights []int, prices []int, i int) []aCall {
	way := []int{i}
	calls := append(placeCalls(x, weights, heights, i, i), loadCalls(x, weights, heights)...)
	return append(append(calls, costWayCalls(x, weights, prices, way)...), peakCall(x, heights, way), costsFromCall(x, weights, i), fairCall(x, weights, prices))
}

func areAgentsCall(x impl.Space, agents []int) aCall {
	return aCall{"AreAgents", impl.AreAgents, []any{x, agents}}
}

func jointMovesCall(x impl.Space, agents []int) aCall {
	return aCall{"JointMoves", impl.JointMoves, []any{x, agents}}
}

func isJointPlanCall(x impl.Space, plan [][]int) aCall {
	return aCall{"IsJointPlan", impl.IsJointPlan, []any{x, plan}}
}

// jointCalls returns a call of each function with two lists of agents.
func jointCalls(x impl.Space, from []int, to []int) []aCall {
	return []aCall{{"JointDistance", impl.JointDistance, []any{x, from, to}}, {"JointPlan", impl.JointPlan, []any{x, from, to}}, {"JointBound", impl.JointBound, []any{x, from, to}}}
}

// agentCalls returns a call of each function with agents, where they stay.
func agentCalls(x impl.Space, agents []int) []aCall {
	calls := append(jointCalls(x, agents, agents), jointMovesCall(x, agents))
	return append(calls, areAgentsCall(x, agents), isJointPlanCall(x, [][]int{agents, agents}))
}

// callsWithZeros returns calls of all functions of the chapter, with weights, heights and prices of 0
// and one agent, that succeed if the Space is valid and has States.
func callsWithZeros(x impl.Space) []aCall {
	weights, heights := make([]int, len(x.Steps)), make([]int, len(x.States))
	calls := append(callsAt(x, weights, heights, heights, 0), agentCalls(x, []int{0})...)
	return append(calls, areAgentsCall(x, nil), isJointPlanCall(x, nil))
}

func TestFunctionsOfPlansSucceed(t *testing.T) {
	for _, x := range slices.Concat(smallSpaces(4)[1:], randomSpaces(30), limitSpaces()[2:]) {
		n := len(x.States)
		succeedAll(t, callsWithZeros(x))
		most, highest := slices.Repeat([]int{impl.MaxLoad}, len(x.Steps)), slices.Repeat([]int{impl.MaxLoad}, n)
		for _, price := range []int{impl.MaxValue, -impl.MaxValue} {
			succeedAll(t, callsAt(x, most, highest, slices.Repeat([]int{price}, n), n-1))
		}
		for k := 2; k <= min(impl.MaxAgents, n); k++ {
			if n <= 11 {
				succeedAll(t, agentCalls(x, numbersBelow(k)))
				succeedAll(t, agentCalls(x, reversed(numbersBelow(n))[:k]))
			}
		}
	}
}

// TestFunctionsOfPlansFailForOtherSpaces: all other arguments would do for Spaces that are like these.
func TestFunctionsOfPlansFailForOtherSpaces(t *testing.T) {
	for _, x := range badSpaces() {
		failAll(t, callsWithZeros(x), "no Space")
		for k := 2; k <= min(impl.MaxAgents, len(x.States)); k++ {
			failAll(t, agentCalls(x, numbersBelow(k)), "no Space")
		}
		if len(x.States) > 1 {
			way := []int{0, 1}
			failAll(t, append(costWayCalls(x, make([]int, len(x.Steps)), make([]int, len(x.States)), way), peakCall(x, make([]int, len(x.States)), way), isJointPlanCall(x, [][]int{{0}, {1}})), "no Space")
			failAll(t, jointCalls(x, []int{0}, []int{1}), "no Space")
		}
	}
}

// TestSpaceWithoutStatesHasNoPlans, but a tree, levels and prices.
func TestSpaceWithoutStatesHasNoPlans(t *testing.T) {
	for _, x := range limitSpaces()[:2] {
		for _, list := range [][]int{nil, {}} {
			succeedAll(t, append(loadCalls(x, list, list), fairCall(x, list, list), areAgentsCall(x, list), isJointPlanCall(x, [][]int{list})))
			tree, one := impl.CheapTree(x, list)
			merges, two := impl.MergeHeights(x, list)
			y, three := impl.LevelSpace(x, list, 0)
			fair, four := impl.AreFairPrices(x, list, list)
			if !one || !two || !three || !four || len(tree) != 0 || len(merges) != 0 || !sameSpace(y, impl.Space{}) || !fair {
				t.Error("results", tree, merges, y, fair)
			}
			failAll(t, append(costWayCalls(x, list, list, list), peakCall(x, list, list), jointMovesCall(x, list)), "no way or agents")
			failAll(t, jointCalls(x, list, list), "no agents")
			for _, place := range []int{-1, 0, 1} {
				failAll(t, append(placeCalls(x, list, list, place, place), costsFromCall(x, list, place)), "no place")
				failAll(t, append(jointCalls(x, []int{place}, []int{place}), jointMovesCall(x, []int{place})), "no place")
				are, five := impl.AreAgents(x, []int{place})
				is, six := impl.IsJointPlan(x, [][]int{{place}})
				if are || is || !five || !six {
					t.Error("agents", place, are, is)
				}
			}
		}
	}
}

// notLoads returns lists that are near to one of weights or heights, but too short, too long, or with
// a number out of its bounds.
func notLoads(loads []int) [][]int {
	lists := [][]int{append(slices.Clone(loads), 0), append(slices.Clone(loads), 1, 1), make([]int, len(loads)+1000), append(slices.Clone(loads), -1)}
	if len(loads) > 0 {
		lists = append(lists, nil, loads[1:], loads[:len(loads)-1])
	}
	for k := range loads {
		for _, far := range []int{-1, impl.MaxLoad + 1, -impl.MaxLoad, 1 << 32, math.MinInt, math.MaxInt} {
			lists = append(lists, withColour(loads, k, far))
		}
	}
	return lists
}

// notPrices does the same for prices.
func notPrices(prices []int) [][]int {
	lists := [][]int{append(slices.Clone(prices), 0), make([]int, len(prices)+1000)}
	if len(prices) > 0 {
		lists = append(lists, nil, prices[1:], prices[:len(prices)-1])
	}
	for k := range prices {
		for _, far := range []int{impl.MaxValue + 1, -impl.MaxValue - 1, 1<<32 + 1, math.MinInt, math.MaxInt} {
			lists = append(lists, withColour(prices, k, far))
		}
	}
	return lists
}

// failingSpaces have few States and many, with several parts and with one.
func failingSpaces() []impl.Space {
	spaces := append(smallSpaces(3)[1:], spacesOf(4)[40:]...)
	return append(spaces, append(randomSpaces(8), circle(9), withSteps(7, 21), impl.Space{States: lineStates(5)})...)
}

func TestFunctionsOfPlansFailForOtherLoads(t *testing.T) {
	random := rand.New(rand.NewSource(141))
	for _, x := range failingSpaces() {
		n := len(x.States)
		weights, heights, prices := randomLoads(len(x.Steps), impl.MaxLoad, random), randomLoads(n, impl.MaxLoad, random), make([]int, n)
		i := random.Intn(n)
		for _, bad := range notLoads(weights) {
			calls := append(costWayCalls(x, bad, prices, []int{i}), costsFromCall(x, bad, i), fairCall(x, bad, prices))
			failAll(t, append(calls, placeCalls(x, bad, heights, i, i)[0], loadCalls(x, bad, heights)[0]), "no weights")
		}
		for _, bad := range notLoads(heights) {
			calls := append(placeCalls(x, weights, bad, i, i)[1:], loadCalls(x, weights, bad)[1:]...)
			failAll(t, append(calls, peakCall(x, bad, []int{i})), "no heights")
		}
		for _, bad := range notPrices(prices) {
			failAll(t, []aCall{fairCall(x, weights, bad), costWayCalls(x, weights, bad, []int{i})[1]}, "no prices")
		}
	}
}

// TestFunctionsOfPlansFailForListsThatAreNoWays tries all lists of up to 3 numbers.
func TestFunctionsOfPlansFailForListsThatAreNoWays(t *testing.T) {
	for _, x := range append(smallSpaces(4), circle(5)) {
		weights, heights := make([]int, len(x.Steps)), make([]int, len(x.States))
		everyList(3, -1, len(x.States), func(list []int) {
			calls := append(costWayCalls(x, weights, heights, list), peakCall(x, heights, list))
			if isWay(x, list) {
				succeedAll(t, calls)
			} else {
				failAll(t, calls, "no way")
			}
		})
		for _, list := range [][]int{{math.MinInt}, {math.MaxInt}, {0, math.MaxInt}, {math.MinInt, 0}, {0, 1 << 32}, make([]int, 1000)} {
			failAll(t, append(costWayCalls(x, weights, heights, list), peakCall(x, heights, list)), "no way")
		}
	}
}

func TestFunctionsOfPlansFailForOtherPlaces(t *testing.T) {
	for _, x := range append(failingSpaces(), limitSpaces()[2:]...) {
		n := len(x.States)
		weights, heights := make([]int, len(x.Steps)), make([]int, n)
		for _, place := range []int{-1, n, n + 1, -n - 1, impl.MaxStates, 1 << 32, math.MinInt, math.MaxInt} {
			calls := append(placeCalls(x, weights, heights, place, 0), placeCalls(x, weights, heights, n-1, place)...)
			failAll(t, append(append(calls, placeCalls(x, weights, heights, place, place)...), costsFromCall(x, weights, place)), "no place")
		}
	}
}

// TestNoWayBetweenParts: places, or agents, of different parts.
func TestNoWayBetweenParts(t *testing.T) {
	several := 0
	for _, x := range failingSpaces() {
		weights, heights := make([]int, len(x.Steps)), make([]int, len(x.States))
		table := distanceTable(x)
		for i := range x.States {
			for j := range x.States {
				calls := placeCalls(x, weights, heights, i, j)
				if table[i][j] >= 0 {
					succeedAll(t, calls)
					continue
				}
				several++
				failAll(t, append(calls, jointCalls(x, []int{i}, []int{j})...), "no way")
				other := (j + 1) % len(x.States)
				if other != i {
					failAll(t, append(jointCalls(x, []int{other, i}, []int{other, j}), jointCalls(x, []int{i, other}, []int{j, other})...), "no way of one of two")
				}
			}
		}
	}
	if several < 300 {
		t.Error("too few", several)
	}
}

// notAgents returns lists that are near to one of agents, but none.
func notAgents(x impl.Space, agents []int) [][]int {
	n := len(x.States)
	lists := [][]int{nil, numbersBelow(4), append(slices.Clone(agents), agents[0]), append([]int{agents[len(agents)-1]}, agents...), numbersBelow(n + 4), append(slices.Clone(agents), -1), append(slices.Clone(agents), n)}
	for k := range agents {
		for _, far := range []int{-1, n, n + 1, impl.MaxStates, agents[k] + 1<<32, math.MinInt, math.MaxInt} {
			lists = append(lists, withColour(agents, k, far))
		}
		if k > 0 {
			lists = append(lists, withColour(agents, k, agents[0]), withColour(agents, 0, agents[k]))
		}
	}
	return lists
}

func TestFunctionsFailForListsThatAreNoAgents(t *testing.T) {
	random := rand.New(rand.NewSource(142))
	for _, x := range failingSpaces() {
		for k := range min(impl.MaxAgents, len(x.States)) {
			if len(x.States) > 11 && k > 0 {
				continue // more than MaxJoint joint states
			}
			agents := random.Perm(len(x.States))[:k+1]
			succeedAll(t, agentCalls(x, agents))
			for _, bad := range notAgents(x, agents) {
				calls := append(jointCalls(x, agents, bad), jointCalls(x, bad, agents)...)
				failAll(t, append(append(calls, jointCalls(x, bad, bad)...), jointMovesCall(x, bad)), "no agents")
				are, one := impl.AreAgents(x, bad)
				is, two := impl.IsJointPlan(x, [][]int{bad})
				isBehind, three := impl.IsJointPlan(x, [][]int{agents, bad})
				isAhead, four := impl.IsJointPlan(x, [][]int{bad, agents})
				if are || is || isBehind || isAhead || !one || !two || !three || !four {
					t.Error("agents", x, bad, are, is, isBehind, isAhead)
				}
			}
		}
	}
}

func TestFunctionsFailForOtherNumbersOfAgents(t *testing.T) {
	for _, x := range []impl.Space{lineOf(4), circle(11), withSteps(5, 10), lineOf(30), lineOf(impl.MaxStates)} {
		for k := range impl.MaxAgents {
			for m := range impl.MaxAgents {
				if k == m {
					continue
				}
				for _, to := range [][]int{numbersBelow(m + 1), reversed(numbersBelow(m + 1))} {
					failAll(t, jointCalls(x, numbersBelow(k+1), to), "different numbers of agents")
					if is, ok := impl.IsJointPlan(x, [][]int{numbersBelow(k + 1), to}); is || !ok {
						t.Error("plan", k, m, is, ok)
					}
				}
			}
		}
	}
}

func TestFunctionsOfPlansKeepMemoryApart(t *testing.T) {
	random := rand.New(rand.NewSource(143))
	for _, x := range slices.Concat(smallSpaces(3), spacesOf(4)[50:], randomSpaces(4), badSpaces()[:12], []impl.Space{circle(6), withSteps(6, 15)}) {
		calls := callsWithZeros(x)
		n := len(x.States)
		weights, heights := randomLoads(len(x.Steps), 3, random), randomLoads(n, 3, random)
		for i := range min(n, 8) {
			j := n - 1 - i
			costs, _ := impl.CostsFrom(x, weights, i)
			way, _ := impl.CheapestWay(x, weights, i, j)
			low, _ := impl.LowWay(x, heights, i, j)
			calls = append(append(calls, callsAt(x, weights, heights, costs, i)...), placeCalls(x, weights, heights, i, j)...)
			calls = append(append(calls, costWayCalls(x, weights, costs, way)...), peakCall(x, heights, low))
			for k := range min(impl.MaxAgents, n) {
				from, to := random.Perm(n)[:k+1], random.Perm(n)[:k+1]
				plan, _ := impl.JointPlan(x, from, to)
				calls = append(append(calls, agentCalls(x, from)...), jointCalls(x, from, to)...)
				calls = append(calls, isJointPlanCall(x, plan), isJointPlanCall(x, append(plan, from, nil)), areAgentsCall(x, append(from, -1)))
			}
		}
		for _, level := range []int{-1, 0, 1, 2} {
			calls = append(calls, aCall{"LevelSpace", impl.LevelSpace, []any{x, heights, level}})
		}
		for _, c := range append(calls, loadCalls(x, append(weights, 7), append(heights, 7))...) {
			checkMemory(t, c)
		}
	}
}

// TestNilAndEmptyListsOfPlansAreEquivalent: of States, steps, weights, heights, prices and plans.
func TestNilAndEmptyListsOfPlansAreEquivalent(t *testing.T) {
	for _, list := range [][]int{nil, {}} {
		for _, steps := range [][][2]int{nil, {}} {
			one := impl.Space{States: [][]int{list}, Steps: steps}
			succeedAll(t, append(callsAt(one, list, []int{5}, []int{-7}, 0), agentCalls(one, []int{0})...))
			failAll(t, append(jointCalls(one, list, list), jointMovesCall(one, list)), "no agents")
			failAll(t, append(costWayCalls(one, list, []int{0}, list), peakCall(one, []int{0}, list)), "no way")
			for _, plan := range [][][]int{nil, {}, {list}, {list, list}} {
				if is, ok := impl.IsJointPlan(one, plan); is || !ok {
					t.Error("plan", plan, is, ok)
				}
			}
			if are, ok := impl.AreAgents(one, list); are || !ok {
				t.Error("agents", list, are, ok)
			}
		}
	}
}
