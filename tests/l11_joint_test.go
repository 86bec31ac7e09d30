package tests

import (
	"math"
	"math/rand"
	"slices"
	"testing"

	"loop.example/g01128/impl"
)

func isAgents(x impl.Space, list []int) bool {
	for k, place := range list {
		if place < 0 || place >= len(x.States) || slices.Contains(list[:k], place) {
			return false
		}
	}
	return 1 <= len(list) && len(list) <= 3
}

// isJointMove looks at each two agents, in both orders.
func isJointMove(x impl.Space, a []int, b []int) bool {
	for k := range a {
		if a[k] != b[k] && !hasStep(x, a[k], b[k]) {
			return false
		}
		for m := range a {
			if m != k && (b[k] == b[m] || b[k] == a[m] && b[m] == a[k]) {
				return false
			}
		}
	}
	return true
}

func isPlan(x impl.Space, plan [][]int) bool {
	for k, agents := range plan {
		if !isAgents(x, agents) || k > 0 && (len(plan[k-1]) != len(agents) || !isJointMove(x, plan[k-1], agents)) {
			return false
		}
	}
	return 1 <= len(plan) && len(plan) <= 41
}

// crowd has all joint states of a number of agents, in lexicographic order, and for each of them the
// numbers of those behind a joint move.
type crowd struct {
	states [][]int
	next   [][]int
}

func crowdOf(x impl.Space, agents int) crowd {
	c := crowd{}
	everyList(agents, 0, len(x.States)-1, func(list []int) {
		if len(list) == agents && isAgents(x, list) {
			c.states = append(c.states, list)
		}
	})
	for _, a := range c.states {
		next := []int{}
		for k, b := range c.states {
			if isJointMove(x, a, b) {
				next = append(next, k)
			}
		}
		c.next = append(c.next, next)
	}
	return c
}

// plansFrom returns for each joint state the first one of the shortest plans to it, as numbers of
// joint states, none if there is none. It goes forth, and compares whole plans.
func (c crowd) plansFrom(i int) [][]int {
	plans := make([][]int, len(c.states))
	plans[i] = []int{i}
	for layer := []int{i}; len(layer) > 0; {
		following := []int{}
		for _, k := range layer {
			for _, next := range c.next[k] {
				plan := append(slices.Clone(plans[k]), next)
				switch {
				case plans[next] == nil:
					following = append(following, next)
					plans[next] = plan
				case len(plans[next]) == len(plan) && slices.Compare(plan, plans[next]) < 0:
					plans[next] = plan
				}
			}
		}
		layer = following
	}
	return plans
}

func (c crowd) statesOf(plan []int) [][]int {
	states := [][]int{}
	for _, k := range plan {
		states = append(states, c.states[k])
	}
	return states
}

// checkMoves holds JointMoves against all joint states.
func checkMoves(t *testing.T, x impl.Space, c crowd, i int) {
	t.Helper()
	moves, ok := impl.JointMoves(x, c.states[i])
	if !ok || !sameLists(moves, c.statesOf(c.next[i])) {
		t.Fatal("moves", x, c.states[i], moves, ok)
	}
}

// checkJoint holds the functions of two lists of agents against the first one of the shortest plans
// between them, none if there is no plan.
func checkJoint(t *testing.T, x impl.Space, from []int, to []int, want [][]int) {
	t.Helper()
	distance, one := impl.JointDistance(x, from, to)
	plan, two := impl.JointPlan(x, from, to)
	isShort := len(want) > 0 && len(want) <= 41
	if one != (len(want) > 0) || one && distance != len(want)-1 || !one && distance != 0 || two != isShort {
		t.Fatal("distance", x, from, to, distance, one, two, want)
	}
	if two && !sameLists(plan, want) || !two && len(plan) > 0 {
		t.Fatal("plan", x, from, to, plan, want)
	}
	if is, ok := impl.IsJointPlan(x, plan); !ok || is != isShort {
		t.Fatal("no joint plan", x, plan, is, ok)
	}
	slices.Reverse(plan)
	if is, ok := impl.IsJointPlan(x, plan); !ok || is != isShort {
		t.Fatal("no joint plan back", x, plan, is, ok)
	}
	bound, three := impl.JointBound(x, from, to)
	if one && (!three || bound > distance) {
		t.Fatal("a plan is shorter than one agent needs", x, from, to, bound, distance)
	}
}

// checkBound holds JointBound against a table of distances.
func checkBound(t *testing.T, x impl.Space, table [][]int, from []int, to []int) {
	t.Helper()
	want, hasWays := 0, true
	for k := range from {
		distance := table[from[k]][to[k]]
		hasWays = hasWays && distance >= 0
		want = max(want, distance)
	}
	if bound, ok := impl.JointBound(x, from, to); ok != hasWays || ok && bound != want || !ok && bound != 0 {
		t.Fatal("bound", x, from, to, bound, ok)
	}
}

func TestJointPlansOfSmallSpaces(t *testing.T) {
	for _, x := range smallSpaces(4) {
		table := distanceTable(x)
		for k := range impl.MaxAgents {
			c := crowdOf(x, k+1)
			for i, from := range c.states {
				checkMoves(t, x, c, i)
				for j, plan := range c.plansFrom(i) {
					checkJoint(t, x, from, c.states[j], c.statesOf(plan))
					checkBound(t, x, table, from, c.states[j])
				}
			}
		}
	}
}

// checkSomeJoint looks at plans from some lists of agents to others.
func checkSomeJoint(t *testing.T, x impl.Space, agents int, froms int, tos int, random *rand.Rand) {
	t.Helper()
	c, table := crowdOf(x, agents), distanceTable(x)
	for range froms {
		i := random.Intn(len(c.states))
		checkMoves(t, x, c, i)
		plans := c.plansFrom(i)
		for range tos {
			j := random.Intn(len(c.states))
			checkJoint(t, x, c.states[i], c.states[j], c.statesOf(plans[j]))
			checkBound(t, x, table, c.states[i], c.states[j])
		}
	}
}

func TestJointPlansOfShapes(t *testing.T) {
	random := rand.New(rand.NewSource(131))
	for n := 5; n <= 6; n++ {
		for _, g := range shapesOf(n) {
			for k := range impl.MaxAgents {
				checkSomeJoint(t, nodesAsStates(g), k+1, 2, 7, random)
			}
		}
	}
}

// jointSpaces returns Spaces with at most so many States: few steps, and some with many.
func jointSpaces(most int, number int) []impl.Space {
	spaces := slices.DeleteFunc(randomSpaces(400), func(x impl.Space) bool { return len(x.States) > most })
	return append(spaces[:number], circle(most), withSteps(most, most-1), impl.Space{States: lineStates(most), Steps: limitSpaces()[9].Steps[:most-1]})
}

func TestJointPlansOfGreaterSpaces(t *testing.T) {
	random := rand.New(rand.NewSource(132))
	for _, x := range jointSpaces(11, 9) {
		checkSomeJoint(t, x, 3, 2, 8, random)
	}
	for _, x := range append(jointSpaces(24, 9), circle(32), jointSpaces(32, 1)[3]) {
		checkSomeJoint(t, x, 2, 2, 8, random)
	}
	for _, x := range append(jointSpaces(24, 9), limitSpaces()[9], limitSpaces()[10], circle(impl.MaxStates)) {
		checkSomeJoint(t, x, 1, 2, 8, random)
	}
}

// TestJointPlansWhereEachPlaceHasAStepToEach: there are as many moves as there can be.
func TestJointPlansWhereEachPlaceHasAStepToEach(t *testing.T) {
	random := rand.New(rand.NewSource(133))
	checkSomeJoint(t, withSteps(11, 55), 3, 1, 3, random)
	checkSomeJoint(t, withSteps(32, 496), 2, 1, 3, random)
	checkSomeJoint(t, withSteps(109, 5886), 1, 2, 4, random)
	// An exchange takes two moves, and so does that of any two of three.
	for _, c := range []struct{ from, to []int }{{[]int{0, 1}, []int{1, 0}}, {[]int{0, 1, 2}, []int{1, 0, 2}}, {[]int{3, 1, 2}, []int{3, 2, 1}}, {[]int{3, 1, 2}, []int{2, 1, 3}}} {
		if distance, ok := impl.JointDistance(withSteps(6, 15), c.from, c.to); !ok || distance != 2 {
			t.Error("exchange", c, distance, ok)
		}
	}
}

func TestJointPlansOfOneAgentAreWays(t *testing.T) {
	for _, x := range append(waySpaces(), limitSpaces()[4:]...) {
		for i := range min(len(x.States), 3) {
			j := len(x.States) - 1 - i
			way, one := impl.FirstWay(x, i, j)
			plan, two := impl.JointPlan(x, []int{i}, []int{j})
			distance, three := impl.JointDistance(x, []int{i}, []int{j})
			bound, four := impl.JointBound(x, []int{i}, []int{j})
			if three != one || four != one || two != (one && len(way) <= 41) || one && (distance != len(way)-1 || bound != distance) {
				t.Fatal("one agent", x, i, j, distance, bound, len(way))
			}
			for k := range plan {
				if !slices.Equal(plan[k], way[k:k+1]) {
					t.Fatal("plan of one agent", x, i, j, plan, way)
				}
			}
			steps, _ := impl.StepsFrom(x, i)
			if moves, ok := impl.JointMoves(x, []int{i}); !ok || len(moves) != len(steps)+1 {
				t.Fatal("moves of one agent", x, i, moves)
			}
		}
	}
}

// star returns the Space whose first State has a step to each other one.
func star(n int) impl.Space { return nodesAsStates(starOf(n)) }

func lineOf(n int) impl.Space {
	return impl.Space{States: lineStates(n), Steps: limitSpaces()[9].Steps[:n-1]}
}

func TestKnownJointPlans(t *testing.T) {
	type lists = [][]int
	apart := impl.Space{States: lineStates(6), Steps: [][2]int{{0, 1}, {0, 2}, {1, 2}, {3, 4}}}
	for _, c := range []struct {
		x        impl.Space
		from, to []int
		plan     lists
	}{
		{impl.Space{States: [][]int{{}}}, []int{0}, []int{0}, lists{{0}}},
		{lineOf(2), []int{0, 1}, []int{0, 1}, lists{{0, 1}}}, {lineOf(2), []int{0, 1}, []int{1, 0}, nil}, {lineOf(2), []int{1}, []int{0}, lists{{1}, {0}}},
		{lineOf(3), []int{0, 1}, []int{1, 0}, nil}, {lineOf(3), []int{0, 2}, []int{2, 0}, nil}, {lineOf(3), []int{0, 1, 2}, []int{1, 2, 0}, nil}, {lineOf(3), []int{0, 1}, []int{1, 2}, lists{{0, 1}, {1, 2}}},
		{lineOf(3), []int{0, 2}, []int{0, 1}, lists{{0, 2}, {0, 1}}}, {lineOf(4), []int{0, 1, 2}, []int{1, 2, 3}, lists{{0, 1, 2}, {1, 2, 3}}}, {lineOf(4), []int{3, 1}, []int{2, 0}, lists{{3, 1}, {2, 0}}},
		{lineOf(5), []int{0, 1}, []int{1, 4}, lists{{0, 1}, {0, 2}, {0, 3}, {1, 4}}}, {lineOf(5), []int{2, 0}, []int{2, 1}, lists{{2, 0}, {2, 1}}}, // one stays
		{circle(3), []int{0, 1, 2}, []int{1, 2, 0}, lists{{0, 1, 2}, {1, 2, 0}}}, {circle(3), []int{0, 1, 2}, []int{2, 0, 1}, lists{{0, 1, 2}, {2, 0, 1}}}, {circle(3), []int{0, 1, 2}, []int{1, 0, 2}, nil}, // round
		{circle(3), []int{0, 1}, []int{1, 0}, lists{{0, 1}, {0, 2}, {1, 0}}}, {circle(4), []int{0, 2}, []int{2, 0}, lists{{0, 2}, {1, 3}, {2, 0}}}, {circle(4), []int{0, 1}, []int{1, 0}, lists{{0, 1}, {0, 2}, {0, 3}, {1, 0}}},
		{star(4), []int{1, 2}, []int{2, 1}, lists{{1, 2}, {0, 2}, {3, 0}, {0, 1}, {2, 1}}}, {star(3), []int{1, 2}, []int{2, 1}, nil}, {star(4), []int{1, 2, 3}, []int{2, 1, 3}, nil},
		{apart, []int{0, 3}, []int{2, 4}, lists{{0, 3}, {2, 4}}}, {apart, []int{0, 3}, []int{3, 0}, nil}, {apart, []int{3, 4}, []int{4, 3}, nil}, {apart, []int{5, 0, 1}, []int{5, 1, 0}, lists{{5, 0, 1}, {5, 0, 2}, {5, 1, 0}}},
		{impl.Space{States: lineStates(3)}, []int{0, 1, 2}, []int{0, 1, 2}, lists{{0, 1, 2}}}, {impl.Space{States: lineStates(3)}, []int{0, 1}, []int{0, 2}, nil},
	} {
		checkJoint(t, c.x, c.from, c.to, c.plan)
	}
}

func TestKnownJointMoves(t *testing.T) {
	type lists = [][]int
	for _, c := range []struct {
		x      impl.Space
		agents []int
		moves  lists
	}{
		{impl.Space{States: [][]int{{}}}, []int{0}, lists{{0}}}, {impl.Space{States: lineStates(3)}, []int{2, 0, 1}, lists{{2, 0, 1}}},
		{lineOf(2), []int{0, 1}, lists{{0, 1}}}, {lineOf(2), []int{1}, lists{{0}, {1}}}, {lineOf(3), []int{1}, lists{{0}, {1}, {2}}},
		{lineOf(3), []int{0, 1}, lists{{0, 1}, {0, 2}, {1, 2}}}, {lineOf(3), []int{1, 0}, lists{{1, 0}, {2, 0}, {2, 1}}}, {lineOf(3), []int{0, 2}, lists{{0, 1}, {0, 2}, {1, 2}}},
		{circle(3), []int{0, 1, 2}, lists{{0, 1, 2}, {1, 2, 0}, {2, 0, 1}}}, {circle(3), []int{2, 1}, lists{{0, 1}, {0, 2}, {1, 0}, {2, 0}, {2, 1}}},
		{star(4), []int{1, 2, 3}, lists{{0, 2, 3}, {1, 0, 3}, {1, 2, 0}, {1, 2, 3}}}, {star(4), []int{0, 1}, lists{{0, 1}, {2, 0}, {2, 1}, {3, 0}, {3, 1}}},
	} {
		if moves, ok := impl.JointMoves(c.x, c.agents); !ok || !sameLists(moves, c.moves) {
			t.Error("moves", c.agents, moves, ok)
		}
	}
}

// TestNoAgentsPassOnALine: the order of agents on it stays, and so none exchange.
func TestNoAgentsPassOnALine(t *testing.T) {
	x := lineOf(6)
	for k := 2; k <= impl.MaxAgents; k++ {
		states := crowdOf(x, k).states
		for _, from := range states {
			for _, to := range states {
				isAlike := true
				for a := range k {
					for b := range a {
						isAlike = isAlike && (from[a] < from[b]) == (to[a] < to[b])
					}
				}
				distance, one := impl.JointDistance(x, from, to)
				bound, two := impl.JointBound(x, from, to)
				if one != isAlike || !two || one && distance != bound {
					t.Fatal("on a line", from, to, distance, one, bound)
				}
			}
			if k == 3 && from[0] > 2 {
				break
			}
		}
	}
}

func TestNumbersOfJointStates(t *testing.T) {
	for _, c := range []struct {
		n, agents int
		few       bool
	}{{11, 3, true}, {12, 3, false}, {32, 2, true}, {33, 2, false}, {300, 1, true}, {13, 3, false}, {40, 2, false}, {300, 2, false}, {300, 3, false}, {3, 3, true}, {12, 2, true}, {33, 1, true}} {
		from := numbersBelow(c.agents)
		to := numbersBelow(c.agents + 1)[1:]
		if c.n == c.agents {
			to = from
		}
		for _, x := range []impl.Space{lineOf(c.n), circle(c.n), {States: lineStates(c.n)}} {
			calls := []aCall{{"JointMoves", impl.JointMoves, []any{x, from}}}
			if len(x.Steps) > 0 {
				calls = append(calls, aCall{"JointDistance", impl.JointDistance, []any{x, from, to}}, aCall{"JointPlan", impl.JointPlan, []any{x, from, to}})
				succeedAll(t, []aCall{{"JointBound", impl.JointBound, []any{x, from, to}}})
			}
			calls = append(calls, aCall{"JointDistance", impl.JointDistance, []any{x, from, from}}, aCall{"JointPlan", impl.JointPlan, []any{x, from, from}})
			if c.few {
				succeedAll(t, calls)
			} else {
				failAll(t, calls, "more than MaxJoint joint states")
			}
			// These functions ask for no number of joint states.
			is, one := impl.IsJointPlan(x, [][]int{from, from, from})
			isWith, two := impl.IsJointPlan(x, [][]int{from, to, from})
			bound, three := impl.JointBound(x, from, from)
			if !one || !two || !three || !is || isWith != (len(x.Steps) > 0 || c.n == c.agents) || bound != 0 {
				t.Error("plan or bound", c, is, isWith, bound)
			}
		}
	}
}

// branched returns a line of States, the last but two of which has a step to one State more.
func branched(n int) impl.Space {
	x := lineOf(n)
	x.Steps[n-2] = [2]int{n - 3, n - 1}
	return x
}

// TestLengthsOfPlans around MaxPlan.
func TestLengthsOfPlans(t *testing.T) {
	found := map[int]int{}
	for _, c := range []struct {
		x    impl.Space
		from []int
	}{{lineOf(impl.MaxStates), []int{0}}, {lineOf(impl.MaxStates), []int{123}}, {circle(84), []int{7}}, {branched(24), []int{0, 1}}, {branched(32), []int{0, 5}}, {branched(11), []int{0, 1, 2}}} {
		m := crowdOf(c.x, len(c.from))
		for j, plan := range m.plansFrom(indexOf(m.states, c.from)) {
			if length := len(plan) - 1; length == 0 || length >= 38 && length <= 44 && found[length] < 30 || length > 50 && found[length] < 2 {
				checkJoint(t, c.x, c.from, m.states[j], m.statesOf(plan))
				found[length]++
			}
		}
	}
	if found[0] != 6 || found[39] < 9 || found[40] < 9 || found[41] < 9 || found[42] < 9 || len(found) < 20 {
		t.Error("too few of a length", found)
	}
}

func TestAreAgents(t *testing.T) {
	for _, x := range slices.Concat(spacesOf(0), spacesOf(1), spacesOf(2), spacesOf(3)[:3], spacesOf(4)[:3], spacesOf(5)[:1]) {
		everyList(4, -1, len(x.States), func(list []int) {
			if are, ok := impl.AreAgents(x, list); !ok || are != isAgents(x, list) {
				t.Fatal("agents", x, list, are, ok)
			}
		})
	}
	x := lineOf(impl.MaxStates)
	for _, c := range []struct {
		list []int
		want bool
	}{
		{nil, false}, {[]int{}, false}, {[]int{299}, true}, {[]int{299, 0, 150}, true}, {[]int{299, 0, 299}, false}, {[]int{0, 299, 299}, false}, {[]int{300}, false}, {[]int{299, 300}, false},
		{[]int{0, 1, 2, 3}, false}, {numbersBelow(300), false}, {[]int{math.MinInt}, false}, {[]int{math.MaxInt, 0}, false}, {[]int{0, math.MinInt, math.MaxInt}, false}, {[]int{1 << 32}, false}, {[]int{-1, 0}, false},
	} {
		if are, ok := impl.AreAgents(x, c.list); !ok || are != c.want {
			t.Error("agents", c.list, are, ok)
		}
	}
}

func checkIsPlan(t *testing.T, x impl.Space, plan [][]int) {
	t.Helper()
	if is, ok := impl.IsJointPlan(x, plan); !ok || is != isPlan(x, plan) {
		t.Fatal("plan", x, plan, is, ok)
	}
}

// TestIsJointPlanOfFewLists tries two lists, one of which is of agents and the other one of any
// numbers, and three lists of agents.
func TestIsJointPlanOfFewLists(t *testing.T) {
	for _, x := range smallSpaces(3) {
		lists := [][]int{}
		everyList(4, -1, len(x.States), func(list []int) {
			if len(list) < 4 || list[0] == 0 {
				lists = append(lists, list)
			}
		})
		checkIsPlan(t, x, nil)
		for _, a := range lists {
			checkIsPlan(t, x, [][]int{a})
			for _, b := range lists {
				if isAgents(x, a) || isAgents(x, b) {
					checkIsPlan(t, x, [][]int{a, b})
				}
			}
		}
		agents := slices.DeleteFunc(lists, func(list []int) bool { return !isAgents(x, list) })
		for _, a := range agents {
			for _, b := range agents {
				for _, c := range agents {
					checkIsPlan(t, x, [][]int{a, b, c})
				}
			}
		}
	}
}

// randomPlan goes on by joint moves of a number of agents.
func randomPlan(x impl.Space, agents int, lists int, random *rand.Rand) [][]int {
	plan := [][]int{random.Perm(len(x.States))[:agents]}
	for len(plan) < lists {
		before := plan[len(plan)-1]
		after := []int{}
		for _, place := range before {
			near := []int{place}
			for next := range x.States {
				if hasStep(x, place, next) {
					near = append(near, next)
				}
			}
			after = append(after, near[random.Intn(len(near))])
		}
		if isJointMove(x, before, after) {
			plan = append(plan, after)
		}
	}
	return plan
}

// TestIsJointPlanOfManyLists changes a single place of each plan, takes away a list, or exchanges two
// agents.
func TestIsJointPlanOfManyLists(t *testing.T) {
	random := rand.New(rand.NewSource(134))
	count := map[bool]int{}
	for _, x := range append(randomSpaces(60), limitSpaces()[9], limitSpaces()[11], circle(5)) {
		for k := range impl.MaxAgents {
			plan := randomPlan(x, k+1, 1+random.Intn(41), random)
			checkIsPlan(t, x, plan)
			for range 10 {
				other := [][]int{}
				for _, agents := range plan {
					other = append(other, slices.Clone(agents))
				}
				m := random.Intn(len(plan))
				switch random.Intn(4) {
				case 0, 1:
					other[m][random.Intn(k+1)] = random.Intn(len(x.States)+2) - 1
				case 2:
					other = slices.Delete(other, m, m+1)
				case 3:
					other[m][0], other[m][k] = other[m][k], other[m][0]
				}
				checkIsPlan(t, x, other)
				count[isPlan(x, other)]++
			}
		}
	}
	if count[true] < 100 || count[false] < 100 {
		t.Error("too few of a sort", count)
	}
}

func TestLengthsOfJointPlans(t *testing.T) {
	for _, x := range []impl.Space{lineOf(3), circle(3), lineOf(impl.MaxStates), withSteps(109, 5886)} {
		for _, pair := range [][][]int{{{0}, {0}}, {{0}, {1}}, {{0, 1}, {1, 2}}, {{2, 1, 0}, {2, 1, 0}}} {
			for lists := range 60 {
				plan := [][]int{}
				for k := range lists {
					plan = append(plan, pair[k%2])
				}
				if is, ok := impl.IsJointPlan(x, plan); !ok || is != (1 <= lists && lists <= 41) {
					t.Error("length", lists, pair, is, ok)
				}
			}
			if is, ok := impl.IsJointPlan(x, slices.Repeat(pair[:1], 10000)); !ok || is {
				t.Error("a long list", pair, is, ok)
			}
		}
	}
}

// TestJointBound looks at pairs of agents in Spaces with any number of joint states.
func TestJointBound(t *testing.T) {
	random := rand.New(rand.NewSource(135))
	for _, x := range append(randomSpaces(200), limitSpaces()[8:]...) {
		table := distanceTable(x)
		for k := range impl.MaxAgents {
			for range 10 {
				checkBound(t, x, table, random.Perm(len(x.States))[:k+1], random.Perm(len(x.States))[:k+1])
			}
		}
	}
	for _, c := range []struct {
		from, to []int
		bound    int
	}{{[]int{0, 1}, []int{1, 0}, 1}, {[]int{0, 1, 2}, []int{299, 1, 2}, 299}, {[]int{7, 9, 8}, []int{8, 7, 9}, 2}, {[]int{5}, []int{5}, 0}, {[]int{299, 0}, []int{0, 299}, 299}} {
		if bound, ok := impl.JointBound(lineOf(impl.MaxStates), c.from, c.to); !ok || bound != c.bound {
			t.Error("bound", c, bound, ok)
		}
	}
}
