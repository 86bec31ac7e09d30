package tests

import (
	"math"
	"slices"
	"testing"

	"loop.example/g01128/impl"
)

// allCorners are the numbers of corners that are valid.
var allCorners = []int{3, 4, 5, 6, 7, 8}

func TestLimitsOfPolygons(t *testing.T) {
	if impl.MinCorners != 3 || impl.MaxCorners != 8 {
		t.Error("limits", impl.MinCorners, impl.MaxCorners)
	}
}

// isSide reports whether two corners are next to each other.
func isSide(n int, a int, b int) bool { return (a+1)%n == b || (b+1)%n == a }

func diagonalsOf(n int) []int {
	diagonals := []int{}
	for _, pair := range pairsOf(n) {
		if !isSide(n, pair[0], pair[1]) {
			diagonals = append(diagonals, 10*pair[0]+pair[1])
		}
	}
	return diagonals
}

// ends returns both corners of a diagonal.
func ends(diagonal int) []int { return []int{diagonal / 10, diagonal % 10} }

// onOneSide reports whether both ends of a diagonal are on the same side of another one, or at it.
func onOneSide(x int, y int) bool {
	inside, outside := false, false
	for _, corner := range ends(y) {
		inside = inside || corner > x/10 && corner < x%10
		outside = outside || corner < x/10 || corner > x%10
	}
	return !inside || !outside
}

func crossingsOf(a []int, b []int) int {
	crossings := 0
	for _, x := range a {
		for _, y := range b {
			if !onOneSide(x, y) {
				crossings++
			}
		}
	}
	return crossings
}

// triangulationsOver returns the diagonals of all triangulations of the corners first..last,
// without what is between these two themselves, for each third corner of the triangle at them.
func triangulationsOver(first int, last int) [][]int {
	if last-first == 1 {
		return [][]int{{}}
	}
	lists := [][]int{}
	for third := first + 1; third < last; third++ {
		between := []int{}
		if third-first > 1 {
			between = append(between, 10*first+third)
		}
		if last-third > 1 {
			between = append(between, 10*third+last)
		}
		for _, left := range triangulationsOver(first, third) {
			for _, right := range triangulationsOver(third, last) {
				lists = append(lists, slices.Sorted(slices.Values(slices.Concat(between, left, right))))
			}
		}
	}
	return lists
}

func triangulationsOf(n int) [][]int {
	lists := triangulationsOver(0, n-1)
	slices.SortFunc(lists, slices.Compare[[]int])
	return lists
}

// isLine reports whether a side or a diagonal of a list is between two corners.
func isLine(n int, list []int, a int, b int) bool {
	return isSide(n, a, b) || slices.Contains(list, 10*min(a, b)+max(a, b))
}

// cameFor returns the diagonal between the third corners of the two triangles at a diagonal.
func cameFor(n int, list []int, diagonal int) int {
	thirds := []int{}
	a, b := diagonal/10, diagonal%10
	for corner := range n {
		if corner != a && corner != b && isLine(n, list, a, corner) && isLine(n, list, corner, b) {
			thirds = append(thirds, corner)
		}
	}
	return 10*thirds[0] + thirds[1]
}

func flippedAt(n int, list []int, diagonal int) []int {
	return slices.Sorted(slices.Values(append(notIn(list, []int{diagonal}), cameFor(n, list, diagonal))))
}

func polygonSpaceOf(n int) impl.Space {
	states := triangulationsOf(n)
	flips := map[[2]int]bool{}
	for i, list := range states {
		for _, diagonal := range list {
			flips[[2]int{i, indexOf(states, flippedAt(n, list, diagonal))}] = true
		}
	}
	return impl.Space{States: states, Steps: stepsWhere(len(states), func(i int, j int) bool { return flips[[2]int{i, j}] })}
}

// polygonTables has the distances of all triangulations, by the number of corners.
func polygonTables() map[int][][]int {
	tables := map[int][][]int{}
	for _, n := range allCorners {
		tables[n] = distanceTable(polygonSpaceOf(n))
	}
	return tables
}

func fanAt(n int, corner int) []int {
	isElsewhere := func(diagonal int) bool { return !slices.Contains(ends(diagonal), corner) }
	return slices.DeleteFunc(diagonalsOf(n), isElsewhere)
}

func checkIsTriangulation(t *testing.T, n int, list []int, want bool) {
	t.Helper()
	if is, ok := impl.IsTriangulation(n, list); !ok || is != want {
		t.Error("triangulation", n, list, is, ok)
	}
}

// TestIsTriangulation looks at lists of any small numbers, and at ascending lists of diagonals.
func TestIsTriangulation(t *testing.T) {
	for _, c := range []struct{ n, most, from, to int }{{3, 2, -2, 40}, {4, 2, -20, 110}, {5, 2, -10, 70}, {5, 3, -1, 36}, {6, 3, 0, 47}, {7, 2, 0, 70}, {8, 2, 0, 80}} {
		all := triangulationsOf(c.n)
		everyList(c.most, c.from, c.to, func(list []int) { checkIsTriangulation(t, c.n, list, indexOf(all, list) >= 0) })
	}
	for _, n := range allCorners {
		all, found := triangulationsOf(n), 0
		diagonals := diagonalsOf(n)
		for k := range min(len(diagonals), n-2) + 1 {
			for _, places := range listsOfNumbers(0, len(diagonals), k) {
				list := []int{}
				for _, place := range places {
					list = append(list, diagonals[place])
				}
				want := k == n-3 && indexOf(all, list) >= 0
				checkIsTriangulation(t, n, list, want)
				if want {
					found++
				}
			}
		}
		if found != len(all) {
			t.Error("not all", n, found)
		}
	}
}

// notTriangulations returns lists that are near to a triangulation, but none.
func notTriangulations(n int, list []int) [][]int {
	lists := [][]int{make([]int, 1000), {-1}, {0}, {1}, {n - 1}, {math.MinInt}, {math.MaxInt}, append(slices.Clone(list), 100), append([]int{-1}, list...)}
	for _, diagonal := range diagonalsOf(n) {
		if !slices.Contains(list, diagonal) {
			lists = append(lists, slices.Sorted(slices.Values(append(slices.Clone(list), diagonal)))) // too long
		}
	}
	for k, diagonal := range list {
		shorter := notIn(list, []int{diagonal})
		lists = append(lists, shorter, slices.Insert(slices.Clone(list), k, diagonal), append(slices.Clone(shorter), diagonal+100))
		a, b := diagonal/10, diagonal%10
		others := []int{
			10*b + a, 11 * a, 11 * b, -diagonal, diagonal + 100, 1<<32 + diagonal, diagonal - 1<<32, math.MinInt, math.MaxInt, 10*a + n, 10*a + 9, 10*n + b, -1, 100,
			10*a + a + 1, n - 1, 1, 10*(n-2) + n - 1, // sides
		}
		for _, other := range diagonalsOf(n) {
			if other != diagonal && other != cameFor(n, list, diagonal) {
				others = append(others, other) // one that is there, or that crosses
			}
		}
		for _, other := range others {
			lists = append(lists, withColour(list, k, other), slices.Sorted(slices.Values(withColour(list, k, other))))
		}
		if k > 0 {
			swapped := slices.Clone(list)
			swapped[k-1], swapped[k] = diagonal, list[k-1]
			lists = append(lists, swapped)
		}
	}
	return lists
}

func TestIsTriangulationOfOtherLists(t *testing.T) {
	for _, n := range allCorners {
		for _, list := range triangulationsOf(n) {
			checkIsTriangulation(t, n, list, true)
			for _, other := range notTriangulations(n, list) {
				checkIsTriangulation(t, n, other, false)
			}
		}
	}
	for _, list := range [][]int{{2, 13}, {3, 2}, {2}, {2, 3, 13}, {2, 2}, {1, 2}, {4, 2}, {2, 30}, {20, 30}, {2, 12}, nil} {
		checkIsTriangulation(t, 5, list, false)
	}
}

func TestPolygonSpace(t *testing.T) {
	for _, n := range allCorners {
		x, one := impl.PolygonSpace(n)
		if !one || !impl.IsSpace(x) || !sameSpace(x, polygonSpaceOf(n)) {
			t.Fatal("polygon space", n, x, one)
		}
		count, two := impl.CountTriangulations(n)
		if !two || count != len(x.States) {
			t.Error("number of triangulations", n, count, len(x.States))
		}
		if parts, ok := impl.PartsOf(x); !ok || len(parts) != 1 {
			t.Error("parts", n, parts)
		}
		for place := range x.States {
			if list, ok := impl.StepsFrom(x, place); !ok || len(list) != n-3 {
				t.Error("steps of a State", n, place, list)
			}
		}
	}
}

func TestKnownPolygons(t *testing.T) {
	for _, c := range []struct{ n, count, diameter int }{{3, 1, 0}, {4, 2, 1}, {5, 5, 2}, {6, 14, 4}, {7, 42, 5}, {8, 132, 7}} {
		x, one := impl.PolygonSpace(c.n)
		count, two := impl.CountTriangulations(c.n)
		diameter, three := impl.DiameterOf(x)
		if !one || !two || !three || count != c.count || len(x.States) != c.count || len(x.Steps) != c.count*(c.n-3)/2 || diameter != c.diameter {
			t.Error("known polygon", c, count, len(x.States), len(x.Steps), diameter)
		}
	}
	x, _ := impl.PolygonSpace(5)
	ring := impl.Space{States: [][]int{{2, 3}, {2, 24}, {3, 13}, {13, 14}, {14, 24}}, Steps: [][2]int{{0, 1}, {0, 2}, {1, 4}, {2, 3}, {3, 4}}}
	if !sameSpace(x, ring) {
		t.Error("five corners", x)
	}
	three, _ := impl.PolygonSpace(3)
	four, _ := impl.PolygonSpace(4)
	if !sameSpace(three, impl.Space{States: [][]int{{}}}) || !sameSpace(four, impl.Space{States: [][]int{{2}, {13}}, Steps: [][2]int{{0, 1}}}) {
		t.Error("three and four corners", three, four)
	}
}

// TestFlipDiagonal: a flip is undone by the flip of the diagonal that came instead.
func TestFlipDiagonal(t *testing.T) {
	for _, n := range allCorners {
		for _, list := range triangulationsOf(n) {
			for _, diagonal := range list {
				flipped, came, ok := impl.FlipDiagonal(n, list, diagonal)
				if !ok || came != cameFor(n, list, diagonal) || !slices.Equal(flipped, flippedAt(n, list, diagonal)) {
					t.Fatal("flip", n, list, diagonal, flipped, came, ok)
				}
				back, gone, ok := impl.FlipDiagonal(n, flipped, came)
				if !ok || gone != diagonal || !slices.Equal(back, list) {
					t.Fatal("undone", n, list, diagonal, back, gone, ok)
				}
			}
		}
	}
}

func TestKnownFlips(t *testing.T) {
	for _, c := range []struct {
		n        int
		list     []int
		diagonal int
		want     []int
		came     int
	}{
		{4, []int{2}, 2, []int{13}, 13}, {4, []int{13}, 13, []int{2}, 2}, {5, []int{2, 3}, 3, []int{2, 24}, 24}, {5, []int{2, 3}, 2, []int{3, 13}, 13}, {5, []int{2, 24}, 24, []int{2, 3}, 3}, {5, []int{14, 24}, 24, []int{13, 14}, 13},
		{6, []int{2, 4, 24}, 24, []int{2, 3, 4}, 3}, {6, []int{2, 4, 24}, 4, []int{2, 24, 25}, 25}, {6, []int{2, 4, 24}, 2, []int{4, 14, 24}, 14}, {8, []int{2, 4, 6, 24, 46}, 4, []int{2, 6, 24, 26, 46}, 26}, {8, []int{2, 3, 4, 5, 6}, 6, []int{2, 3, 4, 5, 57}, 57},
	} {
		flipped, came, ok := impl.FlipDiagonal(c.n, c.list, c.diagonal)
		if !ok || came != c.came || !slices.Equal(flipped, c.want) {
			t.Error("flip", c, flipped, came, ok)
		}
	}
}

// pairsOfTriangulations visits the pairs of all triangulations, in both orders, with their
// places.
func pairsOfTriangulations(n int, visit func(i int, j int, a []int, b []int)) {
	all := triangulationsOf(n)
	for i, a := range all {
		for j, b := range all {
			visit(i, j, a, b)
		}
	}
}

// TestPolygonDistance looks at all pairs up to 7 corners, and at some of 8: each call searches.
func TestPolygonDistance(t *testing.T) {
	for n, table := range polygonTables() {
		pairsOfTriangulations(n, func(i int, j int, a []int, b []int) {
			if n == impl.MaxCorners && (i+3*j)%8 > 0 && i != j {
				return
			}
			if distance, ok := impl.PolygonDistance(n, a, b); !ok || distance != table[i][j] {
				t.Fatal("distance", n, a, b, distance, ok)
			}
		})
	}
}

func TestKnownDistances(t *testing.T) {
	for _, c := range []struct {
		n                                int
		a, b                             []int
		distance, bound, crossings, both int
	}{
		{3, nil, nil, 0, 0, 0, 0}, {4, []int{2}, []int{2}, 0, 0, 0, 1}, {4, []int{2}, []int{13}, 1, 1, 1, 0}, {4, []int{13}, []int{2}, 1, 1, 1, 0},
		{5, []int{2, 3}, []int{13, 14}, 2, 2, 3, 0}, {5, []int{2, 3}, []int{2, 24}, 1, 1, 1, 1}, {6, []int{2, 4, 24}, []int{13, 15, 35}, 4, 4, 6, 0}, {6, []int{2, 3, 4}, []int{2, 24, 25}, 2, 2, 3, 1},
		{8, []int{2, 3, 4, 5, 6}, []int{2, 3, 4, 5, 6}, 0, 0, 0, 5}, {8, []int{2, 3, 4, 5, 6}, []int{13, 14, 15, 16, 17}, 5, 5, 15, 0},
	} {
		distance, one := impl.PolygonDistance(c.n, c.a, c.b)
		bound, two := impl.FanBound(c.n, c.a, c.b)
		crossings, three := impl.CrossingsOf(c.n, c.a, c.b)
		common, four := impl.CommonDiagonals(c.n, c.a, c.b)
		if !one || !two || !three || !four || distance != c.distance || bound != c.bound || crossings != c.crossings || len(common) != c.both {
			t.Error("known distance", c, distance, bound, crossings, common)
		}
	}
}

func TestFanOf(t *testing.T) {
	tables := polygonTables()
	for _, n := range allCorners {
		all := triangulationsOf(n)
		for corner := range n {
			fan, ok := impl.FanOf(n, corner)
			place := indexOf(all, fan)
			if !ok || len(fan) != n-3 || !slices.Equal(fan, fanAt(n, corner)) || place < 0 {
				t.Fatal("fan", n, corner, fan, ok)
			}
			for i, list := range all {
				at := 0
				for _, diagonal := range list {
					if slices.Contains(ends(diagonal), corner) {
						at++
					}
				}
				if tables[n][i][place] != n-3-at {
					t.Fatal("distance to a fan", n, list, corner, tables[n][i][place])
				}
			}
		}
	}
	for _, c := range []struct {
		n, corner int
		want      []int
	}{{3, 0, nil}, {3, 2, nil}, {4, 0, []int{2}}, {4, 1, []int{13}}, {4, 2, []int{2}}, {4, 3, []int{13}}, {5, 2, []int{2, 24}}, {8, 0, []int{2, 3, 4, 5, 6}}, {8, 3, []int{3, 13, 35, 36, 37}}, {8, 7, []int{17, 27, 37, 47, 57}}} {
		if fan, ok := impl.FanOf(c.n, c.corner); !ok || !slices.Equal(fan, c.want) {
			t.Error("known fan", c, fan)
		}
	}
}

// TestDistancesLieBetweenWhatDiffersAndWhatCrosses holds promise 8.
func TestDistancesLieBetweenWhatDiffersAndWhatCrosses(t *testing.T) {
	between, none := 0, 0
	for n := range polygonTables() {
		x, _ := impl.PolygonSpace(n)
		for i, a := range x.States {
			distances, _ := impl.DistancesFrom(x, i)
			for j, b := range x.States {
				crossings, one := impl.CrossingsOf(n, a, b)
				common, two := impl.CommonDiagonals(n, a, b)
				differ := len(a) - len(common)
				if !one || !two || crossings != crossingsOf(a, b) || differ != len(notIn(a, b)) {
					t.Fatal("crossings", n, a, b, crossings, common)
				}
				if distances[j] < differ || distances[j] > crossings {
					t.Fatal("distance", n, a, b, distances[j], differ, crossings)
				}
				if differ < distances[j] && distances[j] < crossings {
					between++
				}
				if n > 3 && len(common) == 0 {
					none++
				}
			}
		}
	}
	if between < 1000 || none < 1000 {
		t.Error("too few", between, none)
	}
}

func TestFanBound(t *testing.T) {
	exact, greater := 0, 0
	for n, table := range polygonTables() {
		fans := []int{}
		for corner := range n {
			fans = append(fans, indexOf(triangulationsOf(n), fanAt(n, corner)))
		}
		pairsOfTriangulations(n, func(i int, j int, a []int, b []int) {
			least := math.MaxInt
			for _, fan := range fans {
				least = min(least, table[i][fan]+table[j][fan])
			}
			bound, ok := impl.FanBound(n, a, b)
			if !ok || bound != least || table[i][j] > bound {
				t.Fatal("bound", n, a, b, bound, ok)
			}
			if table[i][j] == bound {
				exact++
			} else {
				greater++
			}
		})
	}
	if exact < 1000 || greater < 1000 {
		t.Error("too few", exact, greater)
	}
}

// TestCommonDiagonals: each shortest way keeps them, and not only the first one.
func TestCommonDiagonals(t *testing.T) {
	for n, table := range polygonTables() {
		all := triangulationsOf(n)
		pairsOfTriangulations(n, func(i int, j int, a []int, b []int) {
			common, ok := impl.CommonDiagonals(n, a, b)
			if !ok || !slices.Equal(common, notIn(a, notIn(a, b))) || !slices.IsSorted(common) {
				t.Fatal("common", n, a, b, common, ok)
			}
			for k, list := range all {
				if len(common) > 0 && table[i][k]+table[k][j] == table[i][j] && len(notIn(common, list)) > 0 {
					t.Fatal("a shortest way does not keep it", n, a, b, list)
				}
			}
		})
	}
	for _, c := range []struct {
		n          int
		a, b, want []int
	}{{3, nil, nil, nil}, {4, []int{2}, []int{13}, nil}, {5, []int{2, 3}, []int{2, 24}, []int{2}}, {6, []int{2, 3, 4}, []int{2, 4, 24}, []int{2, 4}}, {6, []int{2, 4, 24}, []int{2, 4, 24}, []int{2, 4, 24}}, {8, []int{2, 6, 26, 36, 46}, []int{3, 6, 13, 36, 46}, []int{6, 36, 46}}} {
		if common, ok := impl.CommonDiagonals(c.n, c.a, c.b); !ok || !slices.Equal(common, c.want) {
			t.Error("known", c, common)
		}
	}
}

func TestEarsOf(t *testing.T) {
	most := map[int]int{}
	for _, n := range allCorners {
		for _, list := range triangulationsOf(n) {
			want := []int{}
			for corner := range n {
				// The triangle of an ear has its two neighbors as the other corners.
				if before, next := (corner+n-1)%n, (corner+1)%n; n == 3 || isLine(n, list, before, next) {
					want = append(want, corner)
				}
			}
			ears, ok := impl.EarsOf(n, list)
			if !ok || !slices.Equal(ears, want) || n == 3 && len(ears) != 3 || n > 3 && len(ears) < 2 {
				t.Fatal("ears", n, list, ears, ok)
			}
			most[n] = max(most[n], len(ears))
		}
	}
	if most[3] != 3 || most[4] != 2 || most[5] != 2 || most[6] != 3 || most[7] != 3 || most[8] != 4 {
		t.Error("the most ears", most)
	}
	for _, c := range []struct {
		n          int
		list, want []int
	}{{3, nil, []int{0, 1, 2}}, {4, []int{2}, []int{1, 3}}, {4, []int{13}, []int{0, 2}}, {5, []int{2, 3}, []int{1, 4}}, {6, []int{13, 15, 35}, []int{0, 2, 4}}, {8, []int{2, 4, 6, 24, 46}, []int{1, 3, 5, 7}}, {8, []int{17, 27, 37, 47, 57}, []int{0, 6}}} {
		if ears, ok := impl.EarsOf(c.n, c.list); !ok || !slices.Equal(ears, c.want) {
			t.Error("known", c, ears)
		}
	}
}

// turnedCorners returns what becomes of each corner: step by step, and not by a remainder.
func turnedCorners(n int, by int, mirror bool) []int {
	corners := numbersBelow(n)
	if mirror {
		slices.Reverse(corners)
	}
	for range by {
		for place, corner := range corners {
			corners[place] = corner + 1
			if corner == n-1 {
				corners[place] = 0
			}
		}
	}
	return corners
}

func turnedList(list []int, corners []int) []int {
	turned := []int{}
	for _, diagonal := range list {
		a, b := corners[diagonal/10], corners[diagonal%10]
		turned = append(turned, 10*min(a, b)+max(a, b))
	}
	slices.Sort(turned)
	return turned
}

// TestTurnTriangulation: distances stay the same, by the table for all pairs.
func TestTurnTriangulation(t *testing.T) {
	for n, table := range polygonTables() {
		all := triangulationsOf(n)
		for by := range n {
			for _, mirror := range []bool{false, true} {
				corners := turnedCorners(n, by, mirror)
				places := []int{}
				for _, list := range all {
					turned, ok := impl.TurnTriangulation(n, list, by, mirror)
					if !ok || !slices.Equal(turned, turnedList(list, corners)) {
						t.Fatal("turn", n, list, by, mirror, turned, ok)
					}
					places = append(places, indexOf(all, turned))
				}
				for _, pair := range pairsOf(len(all)) {
					if i, j := pair[0], pair[1]; table[i][j] != table[places[i]][places[j]] {
						t.Fatal("distances", n, all[i], all[j], by, mirror)
					}
				}
			}
		}
	}
}

func TestTurnedTriangulationsHaveTheSameDistances(t *testing.T) {
	for _, n := range allCorners {
		all := triangulationsOf(n)
		for k, by := range turnedCorners(n, 1, true) {
			a, b := all[(7*k)%len(all)], all[(30*k+5)%len(all)]
			for _, mirror := range []bool{false, true} {
				c, _ := impl.TurnTriangulation(n, a, by, mirror)
				d, _ := impl.TurnTriangulation(n, b, by, mirror)
				before, one := impl.PolygonDistance(n, a, b)
				after, two := impl.PolygonDistance(n, c, d)
				if !one || !two || before != after {
					t.Error("distance", n, a, b, by, mirror, before, after)
				}
			}
		}
	}
}

func TestKnownTurns(t *testing.T) {
	for _, c := range []struct {
		n      int
		list   []int
		by     int
		mirror bool
		want   []int
	}{
		{3, nil, 0, false, nil}, {3, nil, 2, true, nil}, {4, []int{2}, 0, false, []int{2}}, {4, []int{2}, 3, false, []int{13}}, {4, []int{2}, 0, true, []int{13}}, {4, []int{2}, 3, true, []int{2}},
		{5, []int{2, 3}, 0, false, []int{2, 3}}, {5, []int{2, 3}, 1, false, []int{13, 14}}, {5, []int{2, 3}, 4, false, []int{14, 24}}, {5, []int{2, 3}, 0, true, []int{14, 24}}, {5, []int{2, 3}, 1, true, []int{2, 3}}, {5, []int{2, 3}, 4, true, []int{3, 13}},
		{8, []int{2, 3, 4, 5, 6}, 7, false, []int{17, 27, 37, 47, 57}},
		// 0-2 0-6 2-6 3-6 4-6 become 7-5 7-1 5-1 4-1 3-1, and, turned by 7, 6-4 6-0 4-0 3-0 2-0.
		{8, []int{2, 6, 26, 36, 46}, 0, true, []int{13, 14, 15, 17, 57}}, {8, []int{2, 6, 26, 36, 46}, 7, true, []int{2, 3, 4, 6, 46}},
	} {
		if turned, ok := impl.TurnTriangulation(c.n, c.list, c.by, c.mirror); !ok || !slices.Equal(turned, c.want) {
			t.Error("turn", c, turned, ok)
		}
	}
}
