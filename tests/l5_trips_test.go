package tests

import (
	"math"
	"math/rand"
	"slices"
	"testing"

	"loop.example/g01128/impl"
)

func isTrip(g impl.Graph, list []int) bool {
	for k, node := range list {
		if !hasEdge(g, node, list[(k+1)%len(list)]) {
			return false
		}
	}
	return 1 <= len(list) && len(list) <= impl.MaxTrip
}

// tripsOf returns all round trips of at most most nodes.
func tripsOf(g impl.Graph, most int) [][]int {
	trips := [][]int{}
	everyList(most, 0, g.Size-1, func(list []int) {
		if isTrip(g, list) {
			trips = append(trips, list)
		}
	})
	return trips
}

// longTrips returns round trips of nodes from a fixed seed, up to MaxTrip, some of which meet a
// node several times.
func longTrips(g impl.Graph, number int, random *rand.Rand) [][]int {
	trips := [][]int{}
	for range number {
		edge := g.Edges[random.Intn(len(g.Edges))]
		list := []int{edge[0]}
		for range impl.MaxTrip {
			near := neighborsAmong(g, list[len(list)-1], setOf(1<<g.Size-1))
			list = append(list, near[random.Intn(len(near))])
			if isTrip(g, list) && random.Intn(4) == 0 {
				trips = append(trips, slices.Clone(list))
			}
		}
		if isTrip(g, list[:impl.MaxTrip]) {
			trips = append(trips, slices.Clone(list[:impl.MaxTrip]))
		}
	}
	return trips
}

// windingOf counts how often a trip goes up from colour 2 to 0, and down from 0 to 2: the
// colours of the trip lie on a stair that has the same colour at each third step.
func windingOf(colours []int, trip []int) int {
	winding := 0
	for k, node := range trip {
		switch [2]int{colours[node], colours[trip[(k+1)%len(trip)]]} {
		case [2]int{2, 0}:
			winding++
		case [2]int{0, 2}:
			winding--
		}
	}
	return winding
}

// tripGraphs have colourings with 3 colours.
func tripGraphs() []impl.Graph {
	return []impl.Graph{
		complete(2), complete(3), rowOf(3), rowOf(4), starOf(4), cycleOf(4), cycleOf(5), parted(), looseTriangle(), twoTriangles(), prism(),
		cycleOf(6), cycleOf(7), twoSides(3), cube(), starOf(8), rowOf(8), {Size: 4, Edges: [][2]int{{0, 1}, {0, 2}, {1, 2}, {1, 3}, {2, 3}}},
	}
}

func tripsFor(g impl.Graph, random *rand.Rand) [][]int {
	most := 6
	if g.Size > 5 {
		most = 4
	}
	return append(tripsOf(g, most), longTrips(g, 40, random)...)
}

func TestWindingOf(t *testing.T) {
	random := rand.New(rand.NewSource(16))
	windings, lengths := map[int]int{}, map[int]int{}
	for _, g := range tripGraphs() {
		for _, trip := range tripsFor(g, random) {
			back := slices.Clone(trip)
			slices.Reverse(back)
			turned := append(slices.Clone(trip[1:]), trip[0])
			for _, colours := range spread(colouringsOf(g, 3), 12) {
				want := windingOf(colours, trip)
				winding, one := impl.WindingOf(g, colours, trip)
				other, two := impl.WindingOf(g, colours, back)
				same, three := impl.WindingOf(g, colours, turned)
				if !one || !two || !three || winding != want || other != -want || same != want {
					t.Fatal("winding", g, colours, trip, winding, other, same, want)
				}
				windings[winding]++
			}
			lengths[len(trip)]++
		}
	}
	for winding := -4; winding <= 4; winding++ {
		if windings[winding] < 10 {
			t.Error("too few of a winding", winding, windings[winding])
		}
	}
	for length := 2; length <= impl.MaxTrip; length++ {
		if lengths[length] < 10 {
			t.Error("too few of a length", length, lengths[length])
		}
	}
}

func TestWindingOfExamples(t *testing.T) {
	triangle := complete(3)
	for _, c := range []struct {
		g             impl.Graph
		colours, trip []int
		want          int
	}{
		{triangle, []int{0, 1, 2}, []int{0, 1, 2}, 1}, {triangle, []int{0, 1, 2}, []int{2, 1, 0}, -1}, {triangle, []int{0, 2, 1}, []int{0, 1, 2}, -1},
		{triangle, []int{0, 1, 2}, []int{0, 1}, 0}, {triangle, []int{2, 0, 1}, []int{2, 1}, 0}, {triangle, []int{0, 1, 2}, []int{1, 2, 1, 0, 1, 0}, 0},
		// A trip that meets each node several times.
		{triangle, []int{0, 1, 2}, slices.Repeat([]int{0, 1, 2}, 6), 6}, {triangle, []int{0, 1, 2}, slices.Repeat([]int{1, 0, 2}, 5), -5},
		{triangle, []int{0, 1, 2}, []int{0, 1, 2, 0, 2, 1}, 0}, {triangle, []int{1, 2, 0}, append(slices.Repeat([]int{0, 1, 2}, 6), 0, 1), 6},
		{cycleOf(6), []int{0, 1, 2, 0, 1, 2}, setOf(63), 2}, {cycleOf(6), []int{0, 1, 2, 0, 2, 1}, setOf(63), 0}, {cycleOf(6), []int{2, 1, 0, 2, 1, 0}, setOf(63), -2},
		{cycleOf(4), []int{0, 1, 0, 2}, setOf(15), 0}, {cycleOf(5), []int{0, 1, 2, 0, 1}, setOf(31), 1}, {cycleOf(5), []int{0, 1, 0, 1, 2}, setOf(31), 1},
		{twoTriangles(), []int{0, 1, 2, 0, 1, 0}, []int{0, 1, 2, 3, 4, 2}, 2}, {twoTriangles(), []int{0, 1, 2, 1, 0, 0}, []int{0, 1, 2, 3, 4, 2}, 0},
	} {
		if winding, ok := impl.WindingOf(c.g, c.colours, c.trip); !ok || winding != c.want {
			t.Error("winding", c, winding, ok)
		}
	}
}

func windingCall(g impl.Graph, colours []int, trip []int) aCall {
	return aCall{"WindingOf", impl.WindingOf, []any{g, colours, trip}}
}

func TestTripsOfMaxTripNodes(t *testing.T) {
	there := []int{0, 1, 2}
	for n := range 10 {
		trip := slices.Repeat(there, n)
		if winding, ok := impl.WindingOf(complete(3), there, trip); n >= 1 && n <= 6 && (!ok || winding != n) || (n == 0 || n > 6) && (ok || winding != 0) {
			t.Error("round and round", n, winding, ok)
		}
		// Two nodes more, for which the trip goes back and forth.
		if winding, ok := impl.WindingOf(complete(3), there, append(trip, 0, 1)); ok != (n <= 6) || ok && winding != n {
			t.Error("round and round, and back", n, winding, ok)
		}
		both := slices.Repeat([]int{0, 1}, n+3)
		if c := windingCall(rowOf(2), []int{2, 0}, both); c.succeeds() != (len(both) <= 20) || len(both) > 20 && !c.fails() {
			t.Error("back and forth", len(both))
		}
	}
	for _, length := range []int{18, 20, 22, 24, 40, 1000, 100000} {
		if c := windingCall(rowOf(2), []int{2, 0}, slices.Repeat([]int{0, 1}, length/2)); c.fails() != (length > impl.MaxTrip) {
			t.Error("length", length)
		}
	}
}

// TestWindingOfListsThatAreNoTrips looks at all short lists, those of one node among them.
func TestWindingOfListsThatAreNoTrips(t *testing.T) {
	trips, others := 0, 0
	for _, g := range []impl.Graph{{}, {Size: 1}, {Size: 2}, complete(2), complete(3), rowOf(4), cycleOf(4), parted(), looseTriangle()} {
		colours := colouringsOf(g, 3)[0]
		everyList(4, -1, g.Size, func(list []int) {
			c := windingCall(g, colours, list)
			if isTrip(g, list) {
				trips++
				if !c.succeeds() {
					t.Fatal("trip", g, list)
				}
				return
			}
			others++
			if !c.fails() {
				t.Fatal("no trip", g, list)
			}
		})
	}
	if trips < 100 || others < 1000 {
		t.Error("too few of a sort", trips, others)
	}
	for _, list := range [][]int{
		nil, {}, {0}, {1}, {2}, {0, 0}, {0, 1, 1}, {0, 0, 1}, {0, 1, 2, 2}, {0, math.MaxInt}, {math.MinInt, 0}, {math.MinInt, math.MaxInt},
		{0, 3}, {0, 1, 3}, {-1, 0}, {1, 2, -1}, {0, 1, 1 << 32}, make([]int, 20), {0, 1, 2, 3},
	} {
		if c := windingCall(complete(3), []int{0, 1, 2}, list); !c.fails() {
			t.Error("no trip", list)
		}
	}
	// Only the last node is no neighbor of the first one.
	for _, list := range [][]int{{0, 1, 2}, {0, 1, 2, 3}, {1, 2, 3}} {
		if c := windingCall(rowOf(4), []int{0, 1, 0, 1}, list); !c.fails() {
			t.Error("no way back", list)
		}
	}
}

func TestWindingOfListsThatAreNoColourings(t *testing.T) {
	for _, g := range tripGraphs() {
		edge := []int{g.Edges[0][0], g.Edges[0][1]}
		for _, colours := range spread(colouringsOf(g, 3), 3) {
			for _, list := range notColourings(g, 3, colours) {
				if c := windingCall(g, list, edge); !c.fails() {
					t.Fatal("no colouring", g, list)
				}
			}
		}
	}
	// A colouring with 4 colours is none with 3, even where the trip does not meet the fourth.
	for _, colours := range [][]int{{0, 1, 3}, {3, 1, 2}, {0, 1, 2, 0}, {0, 1}} {
		if c := windingCall(rowOf(3), colours, []int{0, 1}); !c.fails() {
			t.Error("no colouring", colours)
		}
	}
}

// TestAChangeLeavesTheWindingOfEachRoundTripAsItIs, and a Kempe change may not.
func TestAChangeLeavesTheWindingOfEachRoundTripAsItIs(t *testing.T) {
	random := rand.New(rand.NewSource(17))
	changes, wound, unlike := 0, 0, 0
	for _, g := range tripGraphs() {
		trips := tripsFor(g, random)
		random.Shuffle(len(trips), func(i, j int) { trips[i], trips[j] = trips[j], trips[i] })
		for _, colours := range spread(colouringsOf(g, 3), 20) {
			for k := range 2 * g.Size {
				node, c := k/2, (colours[k/2]+1+k%2)%3 // each of both other colours
				changed := withColour(colours, node, c)
				kempe, _ := impl.KempeChange(g, 3, colours, node, c)
				for _, trip := range trips[:min(len(trips), 60)] {
					before, one := impl.WindingOf(g, colours, trip)
					other, two := impl.WindingOf(g, kempe, trip)
					if !one || !two {
						t.Fatal("no winding", g, colours, trip)
					}
					if other != before {
						unlike++
					}
					if !isProper(g, changed) {
						continue
					}
					if after, ok := impl.WindingOf(g, changed, trip); !ok || after != before {
						t.Fatal("another winding", g, colours, changed, trip, before, after)
					}
					changes++
					if before != 0 {
						wound++
					}
				}
			}
		}
	}
	if changes < 1000 || wound < 1000 || unlike < 100 {
		t.Error("too few of a sort", changes, wound, unlike)
	}
}
