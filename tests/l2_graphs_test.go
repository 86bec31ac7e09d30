package tests

import (
	"math"
	"math/rand"
	"reflect"
	"regexp"
	"slices"
	"strings"
	"testing"

	"loop.example/g01128/impl"
)

func TestLimitsOfSpaces(t *testing.T) {
	limits := []int{impl.MaxNodes, impl.MaxStates, impl.MaxParts, impl.MaxSteps, impl.MaxValue}
	if !slices.Equal(limits, []int{8, 300, 24, 6000, 1000000}) {
		t.Error("limits", limits)
	}
}

// pairsOf returns all pairs of 0..n-1, in order.
func pairsOf(n int) [][2]int {
	pairs := [][2]int{}
	for a := range n {
		for b := a + 1; b < n; b++ {
			pairs = append(pairs, [2]int{a, b})
		}
	}
	return pairs
}

// chosen returns the pairs at the places where the binary digits of a number are 1.
func chosen(pairs [][2]int, digits int) [][2]int {
	some := [][2]int{}
	for k, pair := range pairs {
		if digits>>k&1 == 1 {
			some = append(some, pair)
		}
	}
	return some
}

// graphsOf returns all Graphs with at most most nodes, and some greater ones.
func graphsOf(most int) []impl.Graph {
	graphs := []impl.Graph{}
	for size := range most + 1 {
		pairs := pairsOf(size)
		for digits := range 1 << len(pairs) {
			graphs = append(graphs, impl.Graph{Size: size, Edges: chosen(pairs, digits)})
		}
	}
	random := rand.New(rand.NewSource(2))
	for size := most + 1; size <= impl.MaxNodes; size++ {
		pairs := pairsOf(size)
		graphs = append(graphs, impl.Graph{Size: size}, impl.Graph{Size: size, Edges: pairs})
		for range 30 {
			graphs = append(graphs, impl.Graph{Size: size, Edges: chosen(pairs, random.Intn(1<<len(pairs)))})
		}
	}
	return graphs
}

func badGraphs() []impl.Graph {
	graphs := []impl.Graph{}
	for _, size := range []int{-1, impl.MaxNodes + 1, 1 << 40, math.MinInt, math.MaxInt - 1, math.MaxInt} {
		graphs = append(graphs, impl.Graph{Size: size}, impl.Graph{Size: size, Edges: [][2]int{{0, 1}}})
	}
	graphs = append(graphs, impl.Graph{Size: 0, Edges: [][2]int{{0, 1}}}, impl.Graph{Size: 1, Edges: [][2]int{{0, 1}}})
	for _, edges := range [][][2]int{
		{{1, 0}}, {{0, 1}, {2, 1}}, // the greater node first
		{{1, 1}}, {{0, 0}}, {{3, 3}}, {{0, 1}, {1, 1}, {1, 2}}, // the same node twice
		{{0, 1}, {0, 1}}, {{0, 1}, {1, 2}, {1, 2}}, {{0, 1}, {1, 2}, {0, 1}}, // twice
		{{0, 2}, {0, 1}}, {{1, 2}, {0, 3}}, {{0, 1}, {2, 3}, {1, 2}}, {{0, 3}, {1, 2}, {0, 2}}, // out of order
		{{0, 4}}, {{3, 4}}, {{-1, 0}}, {{-1, 4}}, {{4, 5}}, {{-2, -1}}, // no nodes
		{{0, 1}, {0, math.MaxInt}}, {{math.MinInt, 0}}, {{math.MinInt, math.MaxInt}},
	} {
		graphs = append(graphs, impl.Graph{Size: 4, Edges: edges})
	}
	all := pairsOf(impl.MaxNodes)
	return append(graphs,
		impl.Graph{Size: 8, Edges: append(slices.Clone(all), [2]int{6, 7})},
		impl.Graph{Size: 8, Edges: append(slices.Clone(all), [2]int{7, 8})},
		impl.Graph{Size: 7, Edges: all})
}

func TestIsGraph(t *testing.T) {
	for _, g := range graphsOf(5) {
		if !impl.IsGraph(g) {
			t.Fatal("valid", g)
		}
	}
	if !impl.IsGraph(impl.Graph{}) {
		t.Error("no nodes")
	}
	for _, g := range badGraphs() {
		if impl.IsGraph(g) {
			t.Error("not valid", g)
		}
	}
}

func TestNeighborsOf(t *testing.T) {
	for _, g := range graphsOf(5) {
		for x := range g.Size {
			want := []int{}
			for y := range g.Size {
				if slices.Contains(g.Edges, [2]int{min(x, y), max(x, y)}) {
					want = append(want, y)
				}
			}
			if near, ok := impl.NeighborsOf(g, x); !ok || !slices.Equal(near, want) {
				t.Fatal("neighbors", g, x, near, ok)
			}
		}
		for _, x := range []int{-1, g.Size, g.Size + 1, math.MinInt, math.MaxInt} {
			if c := (aCall{"NeighborsOf", impl.NeighborsOf, []any{g, x}}); !c.fails() {
				t.Fatal("no node", g, x)
			}
		}
	}
}

func TestFunctionsOfGraphsFailForOthers(t *testing.T) {
	for _, g := range badGraphs() {
		for _, x := range []int{0, 1, -1, 9} {
			if c := (aCall{"NeighborsOf", impl.NeighborsOf, []any{g, x}}); !c.fails() {
				t.Error("neighbors", g, x)
			}
		}
		if text, ok := impl.GraphText(g); ok || text != "" {
			t.Error("text", g, text)
		}
	}
}

func TestGraphText(t *testing.T) {
	for text, g := range map[string]impl.Graph{
		"0": {}, "1": {Size: 1}, "8": {Size: 8}, "2 0-1": {Size: 2, Edges: [][2]int{{0, 1}}},
		"3 0-1 1-2":     {Size: 3, Edges: [][2]int{{0, 1}, {1, 2}}},
		"8 0-7 1-2 6-7": {Size: 8, Edges: [][2]int{{0, 7}, {1, 2}, {6, 7}}},
		"8 0-1 0-2 0-3 0-4 0-5 0-6 0-7 1-2 1-3 1-4 1-5 1-6 1-7 2-3 2-4 2-5 2-6 2-7 3-4 3-5 3-6 3-7 4-5 4-6 4-7 5-6 5-7 6-7": {Size: 8, Edges: pairsOf(8)},
	} {
		if s, ok := impl.GraphText(g); !ok || s != text {
			t.Errorf("GraphText(%v) = %q, %t", g, s, ok)
		}
	}
}

func sameGraph(g impl.Graph, h impl.Graph) bool {
	return g.Size == h.Size && slices.Equal(g.Edges, h.Edges)
}

func TestParseGraphReadsWhatGraphTextWrites(t *testing.T) {
	texts := map[string]bool{}
	for _, g := range graphsOf(5) {
		text, ok := impl.GraphText(g)
		if h, fine := impl.ParseGraph(text); !ok || !fine || !sameGraph(g, h) {
			t.Fatalf("ParseGraph(%q) = %v, %t", text, h, fine)
		}
		texts[text] = true
	}
	if len(texts) < 1+1+2+8+64+1024+3*28 {
		t.Error("different Graphs have the same text", len(texts))
	}
}

var graphTexts = regexp.MustCompile(`^[0-8]( [0-7]-[0-7])*$`)

// isGraphText needs no numbers: all of them are single digits, and digits are in order as bytes.
func isGraphText(s string) bool {
	if !graphTexts.MatchString(s) {
		return false
	}
	words := strings.Split(s, " ")
	for k, word := range words[1:] {
		if word[0] >= word[2] || word[2] >= s[0] || k > 0 && words[k] >= word {
			return false
		}
	}
	return true
}

func checkGraphText(t *testing.T, s string) {
	t.Helper()
	g, ok := impl.ParseGraph(s)
	if ok != isGraphText(s) {
		t.Fatalf("ParseGraph(%q) = %v, %t", s, g, ok)
	}
	if text, _ := impl.GraphText(g); ok && text != s {
		t.Fatalf("ParseGraph(%q) = %v", s, g)
	}
	if !ok && !isZero(reflect.ValueOf(g)) {
		t.Fatalf("ParseGraph(%q) fails with %v", s, g)
	}
}

// TestParseGraphRejectsWhatDiffersInOneByte looks at each text with one byte that is another
// one, missing or in addition; a few of these are texts of other Graphs.
func TestParseGraphRejectsWhatDiffersInOneByte(t *testing.T) {
	complete, _ := impl.GraphText(impl.Graph{Size: 8, Edges: pairsOf(8)})
	for _, text := range []string{
		"0", "1", "8", "2 0-1", "3 0-1 1-2", "4 0-3 1-2 1-3", "8 0-1 0-7 6-7", "8 0-2 1-2 1-3 2-7", complete,
	} {
		for place := range len(text) {
			for c := range 256 {
				checkGraphText(t, text[:place]+string([]byte{byte(c)})+text[place+1:])
				checkGraphText(t, text[:place]+string([]byte{byte(c)})+text[place:])
			}
			checkGraphText(t, text[:place]+text[place+1:])
		}
		for c := range 256 {
			checkGraphText(t, text+string([]byte{byte(c)}))
		}
	}
}

func TestParseGraphRejects(t *testing.T) {
	for _, s := range []string{
		"", " ", "-", "a", "9", "10", "-1", "-0", "00", "03 0-1", "+3", "3 ", " 3", "3\n", "3  0-1", "3 0-1 ", "3 0-1\n",
		"3 1-0", "3 0-0", "3 0-3", "3 0-1 0-1", "3 1-2 0-1", "3 0-2 0-1", "2 0-1 1-2", "3 0--1", "3 -1-1", "3 -1", "3 0-",
		"3 0", "3 -", "3 0-1-2", "3 0-1,1-2", "3 0-1 1", "3 00-1", "3 0-01", "3 0-+1", "3 0_1", "3\t0-1", "3 0 1", "1 0-0",
		"3 0-1 x-y", "x 0-1", " 0-1", "3 0-1 1-2 x", "8 0-8", "9 0-1", "3 0\u22121",
		// The size is that of a Graph only modulo 2^64.
		"18446744073709551619", "3" + strings.Repeat(" 0-1", 2000), strings.Repeat(" ", 5000), strings.Repeat("3", 5000),
	} {
		if g, ok := impl.ParseGraph(s); ok || !isZero(reflect.ValueOf(g)) {
			t.Errorf("ParseGraph(%q) = %v, %t", shortened(s), g, ok)
		}
	}
}

func TestParseGraphOfAllShortTexts(t *testing.T) {
	for _, s := range textsOf("0123-8 9", 6) {
		checkGraphText(t, s)
	}
}

func TestFunctionsOfGraphsKeepMemoryApart(t *testing.T) {
	for _, g := range append(graphsOf(3), badGraphs()...) {
		for x := range 4 {
			checkMemory(t, aCall{"NeighborsOf", impl.NeighborsOf, []any{g, x}})
		}
		checkMemory(t, aCall{"IsGraph", impl.IsGraph, []any{g}})
		checkMemory(t, aCall{"GraphText", impl.GraphText, []any{g}})
	}
	for _, s := range []string{"3 0-1 1-2", "0", "", "3 1-0"} {
		checkMemory(t, aCall{"ParseGraph", impl.ParseGraph, []any{s}})
	}
}
