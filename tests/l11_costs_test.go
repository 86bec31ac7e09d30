package tests

import (
	"cmp"
	"math/rand"
	"slices"
	"testing"

	"loop.example/g01128/impl"
)

func TestLimitsOfPlans(t *testing.T) {
	limits := []int{impl.MaxLoad, impl.MaxAgents, impl.MaxJoint, impl.MaxPlan}
	if !slices.Equal(limits, []int{999, 3, 1000, 40}) {
		t.Error("limits", limits)
	}
}

// loadsFor returns lists of n weights or heights, with many and with few that are the same.
func loadsFor(n int, random *rand.Rand) [][]int {
	ascending := []int{}
	for k := range n {
		ascending = append(ascending, k%(impl.MaxLoad+1))
	}
	lists := [][]int{make([]int, n), slices.Repeat([]int{1}, n), slices.Repeat([]int{impl.MaxLoad}, n), ascending, reversed(ascending)}
	for _, most := range []int{1, 1, 2, 5, impl.MaxLoad} {
		lists = append(lists, randomLoads(n, most, random))
	}
	two := randomLoads(n, 1, random)
	for k := range two {
		two[k] *= impl.MaxLoad
	}
	return append(lists, two)
}

// randomLoads returns n numbers in 0..most.
func randomLoads(n int, most int, random *rand.Rand) []int {
	loads := []int{}
	for range n {
		loads = append(loads, random.Intn(most+1))
	}
	return loads
}

// someLoads returns few lists for many States, and all of loadsFor for few.
func someLoads(x impl.Space, n int, random *rand.Rand) [][]int {
	lists := loadsFor(n, random)
	if len(x.States) <= 4 {
		return lists
	}
	random.Shuffle(len(lists), func(a, b int) { lists[a], lists[b] = lists[b], lists[a] })
	return lists[:3]
}

// simpleWays returns all ways from i to j that come to no place twice, in lexicographic order.
func simpleWays(x impl.Space, i int, j int) [][]int {
	ways := [][]int{}
	var extend func(way []int)
	extend = func(way []int) {
		last := way[len(way)-1]
		if last == j {
			ways = append(ways, slices.Clone(way))
			return
		}
		for next := range x.States {
			if hasStep(x, last, next) && !slices.Contains(way, next) {
				extend(append(way, next))
			}
		}
	}
	extend([]int{i})
	return ways
}

// bestWay returns the first one of those ways of a list, in order, for which a number is the least,
// and which have the fewest places; none if there are no ways.
func bestWay(ways [][]int, number func(way []int) int) []int {
	if len(ways) == 0 {
		return nil
	}
	return slices.MinFunc(ways, func(a []int, b []int) int {
		return cmp.Or(number(a)-number(b), len(a)-len(b))
	})
}

func weightBetween(x impl.Space, weights []int, a int, b int) int {
	return weights[slices.Index(x.Steps, [2]int{min(a, b), max(a, b)})]
}

func costOf(x impl.Space, weights []int, way []int) int {
	cost := 0
	for k := 1; k < len(way); k++ {
		cost += weightBetween(x, weights, way[k-1], way[k])
	}
	return cost
}

// tableThrough goes by the places between: it knows what steps take, and what two ways take that
// are joined. What takes nothing is no way, but for a single place.
func tableThrough(x impl.Space, alone func(place int) int, step func(a int, b int) int, joined func(a int, b int) int) [][]int {
	table := distanceTable(impl.Space{States: x.States})
	for a := range x.States {
		table[a][a] = alone(a)
	}
	for _, s := range x.Steps {
		table[s[0]][s[1]], table[s[1]][s[0]] = step(s[0], s[1]), step(s[0], s[1])
	}
	for c := range table {
		for a := range table {
			for b := range table {
				if table[a][c] < 0 || table[c][b] < 0 {
					continue
				}
				if taken := joined(table[a][c], table[c][b]); table[a][b] < 0 || taken < table[a][b] {
					table[a][b] = taken
				}
			}
		}
	}
	return table
}

// perCost is more than any way needs steps.
const perCost = 1000

// costTable returns, for each two places, perCost times the least cost of a way and the fewest
// steps of those with this cost, -1 where there is none.
func costTable(x impl.Space, weights []int) [][]int {
	byStep := map[[2]int]int{}
	for k, s := range x.Steps {
		byStep[s] = perCost*weights[k] + 1
	}
	return tableThrough(x, func(int) int { return 0 }, func(a int, b int) int { return byStep[[2]int{a, b}] }, func(a int, b int) int { return a + b })
}

// wayInTable returns the first one of the ways that a table of costs tells of, none if there is none.
func wayInTable(x impl.Space, weights []int, table [][]int, i int, j int) []int {
	if table[i][j] < 0 {
		return nil
	}
	way := []int{i}
	for i != j {
		for next := range x.States {
			if hasStep(x, i, next) && perCost*weightBetween(x, weights, i, next)+1+table[next][j] == table[i][j] {
				i = next
				break
			}
		}
		way = append(way, i)
	}
	return way
}

func checkCheapest(t *testing.T, x impl.Space, weights []int, i int, j int, want []int) {
	t.Helper()
	way, one := impl.CheapestWay(x, weights, i, j)
	costs, two := impl.CostsFrom(x, weights, i)
	if one != (want != nil) || !slices.Equal(way, want) || !two || len(costs) != len(x.States) {
		t.Fatal("cheapest way", x, weights, i, j, way, one, want)
	}
	if !one {
		if costs[j] != -1 {
			t.Fatal("a cost without a way", x, weights, i, j, costs)
		}
		return
	}
	cost, three := impl.WayCost(x, weights, way)
	if !three || cost != costs[j] || cost != costOf(x, weights, want) {
		t.Fatal("cost", x, weights, i, j, way, cost, costs)
	}
	checkProof(t, x, weights, costs, way)
}

// checkProof holds the guarantee: costs from the first place of a cheapest way prove it.
func checkProof(t *testing.T, x impl.Space, weights []int, costs []int, way []int) {
	t.Helper()
	fair, one := impl.AreFairPrices(x, weights, costs)
	proof, two := impl.IsCostProof(x, weights, costs, way)
	if !one || !two || !fair || !proof {
		t.Fatal("no proof", x, weights, costs, way)
	}
}

func TestCheapestWaysOfSmallSpaces(t *testing.T) {
	random := rand.New(rand.NewSource(111))
	for _, x := range smallSpaces(5) {
		for _, weights := range someLoads(x, len(x.Steps), random) {
			for i := range x.States {
				for j := range x.States {
					want := bestWay(simpleWays(x, i, j), func(way []int) int { return costOf(x, weights, way) })
					checkCheapest(t, x, weights, i, j, want)
				}
			}
		}
	}
}

func TestCheapestWaysOfGreaterSpaces(t *testing.T) {
	random := rand.New(rand.NewSource(112))
	for _, x := range randomSpaces(120) {
		for _, weights := range someLoads(x, len(x.Steps), random) {
			table := costTable(x, weights)
			for range 20 {
				i, j := random.Intn(len(x.States)), random.Intn(len(x.States))
				checkCheapest(t, x, weights, i, j, wayInTable(x, weights, table, i, j))
			}
		}
	}
}

func TestCheapestWaysOfTheGreatestSpaces(t *testing.T) {
	random := rand.New(rand.NewSource(113))
	for _, x := range append(limitSpaces()[8:], circle(impl.MaxStates)) {
		for _, weights := range someLoads(x, len(x.Steps), random)[:2] {
			table := costTable(x, weights)
			for range 10 {
				i, j := random.Intn(len(x.States)), random.Intn(len(x.States))
				checkCheapest(t, x, weights, i, j, wayInTable(x, weights, table, i, j))
			}
		}
	}
}

func TestKnownCheapestWays(t *testing.T) {
	// From 0 to 4 over 1, over 2 and 3, or straight.
	x := impl.Space{States: lineStates(5), Steps: [][2]int{{0, 1}, {0, 2}, {0, 4}, {1, 4}, {2, 3}, {3, 4}}}
	line := limitSpaces()[9]
	for _, c := range []struct {
		x       impl.Space
		weights []int
		way     []int
		cost    int
	}{
		{x, []int{1, 1, 9, 1, 1, 1}, []int{0, 1, 4}, 2}, {x, []int{1, 1, 2, 1, 0, 1}, []int{0, 4}, 2}, // with the fewest steps
		{x, []int{1, 1, 9, 2, 1, 1}, []int{0, 1, 4}, 3}, {x, []int{2, 1, 9, 2, 1, 1}, []int{0, 2, 3, 4}, 3},
		{x, []int{0, 0, 0, 0, 0, 0}, []int{0, 4}, 0}, {x, []int{0, 0, 1, 0, 0, 0}, []int{0, 1, 4}, 0}, {x, []int{1, 0, 1, 0, 0, 0}, []int{0, 2, 3, 4}, 0},
		{x, []int{999, 999, 999, 0, 0, 0}, []int{0, 4}, 999}, {x, []int{499, 333, 999, 500, 333, 333}, []int{0, 4}, 999}, {x, []int{499, 333, 999, 499, 333, 333}, []int{0, 1, 4}, 998},
		{circle(4), []int{5, 5, 5, 5}, []int{0, 1}, 5}, {circle(4), []int{3, 1, 1, 1}, []int{0, 1}, 3}, {circle(4), []int{4, 1, 1, 1}, []int{0, 3, 2, 1}, 3},
		{circle(4), []int{1, 2, 2, 1}, []int{0, 1, 2}, 3}, {circle(4), []int{2, 1, 1, 1}, []int{0, 3, 2}, 2}, // as many steps
		{line, slices.Repeat([]int{impl.MaxLoad}, impl.MaxStates-1), numbersBelow(impl.MaxStates), 298701},
		{line, make([]int, impl.MaxStates-1), numbersBelow(impl.MaxStates), 0}, {line, make([]int, impl.MaxStates-1), []int{0}, 0},
		{impl.Space{States: [][]int{{}}}, nil, []int{0}, 0}, {impl.Space{States: lineStates(impl.MaxStates)}, nil, []int{0}, 0},
	} {
		last := c.way[len(c.way)-1]
		checkCheapest(t, c.x, c.weights, 0, last, c.way)
		if costs, _ := impl.CostsFrom(c.x, c.weights, last); costs[0] != c.cost {
			t.Error("cost back", c.weights, c.way, costs[0])
		}
	}
}

func TestCostsOfSeveralParts(t *testing.T) {
	x := impl.Space{States: lineStates(6), Steps: [][2]int{{0, 4}, {1, 2}, {2, 3}}}
	weights := []int{0, 7, impl.MaxLoad}
	for i, want := range [][]int{{0, -1, -1, -1, 0, -1}, {-1, 0, 7, 1006, -1, -1}, {-1, 7, 0, 999, -1, -1}, {-1, 1006, 999, 0, -1, -1}, {0, -1, -1, -1, 0, -1}, {-1, -1, -1, -1, -1, 0}} {
		if costs, ok := impl.CostsFrom(x, weights, i); !ok || !slices.Equal(costs, want) {
			t.Error("costs", i, costs, ok)
		}
		for j, cost := range want {
			way, ok := impl.CheapestWay(x, weights, i, j)
			if ok != (cost >= 0) || ok != (len(way) > 0) {
				t.Error("way", i, j, way, ok)
			}
		}
	}
}

// TestCostsFromAreFair holds for several parts too, as -1 is told of whole parts.
func TestCostsFromAreFair(t *testing.T) {
	random := rand.New(rand.NewSource(114))
	oneParts := 0
	for _, x := range slices.Concat(waySpaces(), limitSpaces()) {
		weights := randomLoads(len(x.Steps), []int{1, 3, impl.MaxLoad}[random.Intn(3)], random)
		for range min(len(x.States), 3) {
			i := random.Intn(len(x.States))
			costs, one := impl.CostsFrom(x, weights, i)
			fair, two := impl.AreFairPrices(x, weights, costs)
			if !one || !two || !fair {
				t.Fatal("not fair", x, weights, i, costs)
			}
			if !slices.Contains(costs, -1) {
				oneParts++
			}
		}
	}
	if oneParts < 1000 {
		t.Error("too few with one part", oneParts)
	}
}

func TestWithAllWeightsTheSameCostsAreDistances(t *testing.T) {
	for _, x := range slices.Concat(waySpaces(), limitSpaces()) {
		for i := range min(len(x.States), 6) {
			distances, _ := impl.DistancesFrom(x, i)
			for _, weight := range []int{1, 0, impl.MaxLoad} {
				weights := slices.Repeat([]int{weight}, len(x.Steps))
				costs, ok := impl.CostsFrom(x, weights, i)
				for j, distance := range distances {
					if !ok || distance < 0 && costs[j] != -1 || distance >= 0 && costs[j] != weight*distance {
						t.Fatal("costs and distances", x, i, weight, costs, distances)
					}
				}
				j := len(x.States) - 1 - i
				way, one := impl.FirstWay(x, i, j)
				cheapest, two := impl.CheapestWay(x, weights, i, j)
				if one != two || !slices.Equal(way, cheapest) {
					t.Fatal("ways", x, i, j, weight, way, cheapest)
				}
			}
		}
	}
}

// everyWay visits all ways of at most so many places, those that come back included.
func everyWay(x impl.Space, most int, visit func(way []int)) {
	everyList(most, 0, len(x.States)-1, func(list []int) {
		if isWay(x, list) {
			visit(list)
		}
	})
}

func TestWayCost(t *testing.T) {
	random := rand.New(rand.NewSource(115))
	for _, x := range smallSpaces(4) {
		for _, weights := range loadsFor(len(x.Steps), random) {
			everyWay(x, 5, func(way []int) {
				if cost, ok := impl.WayCost(x, weights, way); !ok || cost != costOf(x, weights, way) {
					t.Fatal("cost", x, weights, way, cost, ok)
				}
			})
		}
	}
	line := limitSpaces()[9]
	most := slices.Repeat([]int{impl.MaxLoad}, impl.MaxStates-1)
	for _, c := range []struct {
		way  []int
		cost int
	}{{[]int{299}, 0}, {[]int{0, 1, 0}, 1998}, {slices.Repeat([]int{7, 8}, 2000), 3995001}, {reversed(numbersBelow(impl.MaxStates)), 298701}} {
		if cost, ok := impl.WayCost(line, most, c.way); !ok || cost != c.cost {
			t.Error("cost", len(c.way), cost, ok)
		}
	}
}

// areFair reports what AreFairPrices should.
func areFair(x impl.Space, weights []int, prices []int) bool {
	for k, step := range x.Steps {
		a, b := prices[step[0]], prices[step[1]]
		if a-b > weights[k] || b-a > weights[k] {
			return false
		}
	}
	return true
}

// pricedSpaces visits Spaces of up to 3 States with all weights of 0, 1 and 2, and those of 4 States
// with one list of weights, each with all prices in -1..2.
func pricedSpaces(visit func(x impl.Space, weights []int, prices []int)) {
	random := rand.New(rand.NewSource(116))
	for _, x := range smallSpaces(4) {
		withPrices := func(weights []int) {
			everyList(len(x.States), -1, 2, func(prices []int) {
				if len(prices) == len(x.States) {
					visit(x, weights, prices)
				}
			})
		}
		if len(x.States) == 4 {
			withPrices(randomLoads(len(x.Steps), 3, random))
			continue
		}
		everyList(len(x.Steps), 0, 2, func(weights []int) {
			if len(weights) == len(x.Steps) {
				withPrices(weights)
			}
		})
	}
}

// TestAreFairPrices also holds what the document says of them: no way costs less than they differ.
func TestAreFairPrices(t *testing.T) {
	count := map[bool]int{}
	pricedSpaces(func(x impl.Space, weights []int, prices []int) {
		fair, ok := impl.AreFairPrices(x, weights, prices)
		if !ok || fair != areFair(x, weights, prices) {
			t.Fatal("fair", x, weights, prices, fair, ok)
		}
		count[fair]++
		for i := range x.States {
			costs, _ := impl.CostsFrom(x, weights, i)
			for j, cost := range costs {
				if fair && cost >= 0 && (cost < prices[i]-prices[j] || cost < prices[j]-prices[i]) {
					t.Fatal("a way costs less", x, weights, prices, i, j, cost)
				}
			}
		}
	})
	if count[true] < 1000 || count[false] < 1000 {
		t.Error("too few of a sort", count)
	}
}

func TestIsCostProof(t *testing.T) {
	proofs, wrongWay, unfair := 0, 0, 0
	pricedSpaces(func(x impl.Space, weights []int, prices []int) {
		table := costTable(x, weights)
		everyWay(x, 4, func(way []int) {
			first, last, cost := way[0], way[len(way)-1], costOf(x, weights, way)
			isTold, isFair := cost == prices[last]-prices[first], areFair(x, weights, prices)
			proof, ok := impl.IsCostProof(x, weights, prices, way)
			if !ok || proof != (isTold && isFair) {
				t.Fatal("proof", x, weights, prices, way, proof, ok)
			}
			if proof && table[first][last]/perCost != cost {
				t.Fatal("another way costs less", x, weights, prices, way)
			}
			switch {
			case proof:
				proofs++
			case isTold:
				unfair++
			case cost == prices[first]-prices[last]:
				wrongWay++
			}
		})
	})
	if min(proofs, unfair, wrongWay) < 500 {
		t.Error("too few of a sort", proofs, unfair, wrongWay)
	}
}

// TestNoWayThatCostsMoreIsProved: all ways of small Spaces, with costs as prices.
func TestNoWayThatCostsMoreIsProved(t *testing.T) {
	random := rand.New(rand.NewSource(117))
	for _, x := range smallSpaces(4) {
		for _, weights := range loadsFor(len(x.Steps), random)[3:] {
			table := costTable(x, weights)
			everyWay(x, 5, func(way []int) {
				costs, _ := impl.CostsFrom(x, weights, way[0])
				least := table[way[0]][way[len(way)-1]] / perCost
				proof, ok := impl.IsCostProof(x, weights, costs, way)
				if !ok || proof != (costOf(x, weights, way) == least) {
					t.Fatal("proof", x, weights, way, proof, ok)
				}
			})
		}
	}
}

func TestLimitsOfPrices(t *testing.T) {
	x := impl.Space{States: lineStates(3), Steps: [][2]int{{0, 1}}}
	most := impl.MaxValue
	for _, c := range []struct {
		weight int
		prices []int
		fair   bool
		proof  bool // of the way from 0 to 1
	}{
		{0, []int{most, most, -most}, true, true}, {0, []int{-most, -most, most}, true, true}, {0, []int{most - 1, most, 0}, false, false}, {0, []int{1 - most, -most, 0}, false, false},
		{999, []int{most - 999, most, -most}, true, true}, {999, []int{most, most - 999, -most}, true, false}, {999, []int{-most, 999 - most, most}, true, true}, {999, []int{999 - most, -most, most}, true, false},
		{999, []int{most - 1000, most, 0}, false, false}, {999, []int{-most, 1000 - most, 0}, false, false}, {998, []int{most - 999, most, 0}, false, false}, {999, []int{most - 998, most, 0}, true, false},
		{999, []int{-most, most, 0}, false, false}, {999, []int{most, -most, 0}, false, false}, {0, []int{-most, most, 0}, false, false},
	} {
		fair, one := impl.AreFairPrices(x, []int{c.weight}, c.prices)
		proof, two := impl.IsCostProof(x, []int{c.weight}, c.prices, []int{0, 1})
		if !one || !two || fair != c.fair || proof != c.proof {
			t.Error("prices", c, fair, proof)
		}
	}
	for _, prices := range [][]int{{-most, most}, {most, -most}} {
		apart := impl.Space{States: lineStates(2)}
		fair, one := impl.AreFairPrices(apart, nil, prices)
		proof, two := impl.IsCostProof(apart, nil, prices, []int{1})
		if !one || !two || !fair || !proof {
			t.Error("places without a way may differ by any price", prices, fair, proof)
		}
	}
}
