package tests

import (
	"slices"
	"strconv"
	"strings"
	"testing"

	"loop.example/g00546/impl"
)

func TestLimitsOfGraphs(t *testing.T) {
	if impl.MaxNodes != 24 || impl.MaxArcs != 150 || impl.MaxW != 1000 {
		t.Error(impl.MaxNodes, impl.MaxArcs, impl.MaxW)
	}
}

func TestGraphOkOfRightGraphs(t *testing.T) {
	for _, g := range someGraphs() {
		if !impl.GraphOk(g) {
			t.Errorf("%v", g)
		}
	}
	for _, g := range []impl.Graph{
		withArcs(3, impl.Arc{From: 0, To: 2, W: 1}, impl.Arc{From: 1, To: 0, W: 1}),
		withArcs(2, impl.Arc{From: 0, To: 1, W: 1}, impl.Arc{From: 1, To: 0, W: 1}),
		withArcs(impl.MaxNodes, impl.Arc{From: 0, To: impl.MaxNodes - 1, W: impl.MaxW}, impl.Arc{From: impl.MaxNodes - 1, To: 0, W: 1}),
		{N: 1, Arcs: []impl.Arc{}},
	} {
		if !impl.GraphOk(g) {
			t.Errorf("%v", g)
		}
	}
}

func TestWrongGraphsGetTheFixedAnswers(t *testing.T) {
	for _, x := range wrongGraphs() {
		if impl.GraphOk(x.g) {
			t.Errorf("%s: right", x.name)
		}
		if s := impl.GraphText(x.g); s != "" {
			t.Errorf("%s: text %q", x.name, s)
		}
		if g := impl.Reversed(x.g); !zeroGraph(g) {
			t.Errorf("%s: turned %v", x.name, g)
		}
		for u := int64(-1); u < 4; u++ {
			if l := impl.Outs(x.g, u); len(l) != 0 {
				t.Errorf("%s: outs of %d %v", x.name, u, l)
			}
			for v := int64(-1); v < 4; v++ {
				if w := impl.WeightOf(x.g, u, v); w != 0 {
					t.Errorf("%s: weight from %d to %d is %d", x.name, u, v, w)
				}
				for _, w := range []int64{0, 1} {
					if g, ok := impl.Weighed(x.g, u, v, w); ok || !zeroGraph(g) {
						t.Errorf("%s: weighed %v %v", x.name, g, ok)
					}
				}
			}
		}
	}
}

// linesOf writes what GraphText would, of wrong graphs too.
func linesOf(g impl.Graph) string {
	var b strings.Builder
	b.WriteString("nodes " + strconv.FormatInt(g.N, 10) + "\n")
	for _, a := range g.Arcs {
		b.WriteString(strconv.FormatInt(a.From, 10) + " " + strconv.FormatInt(a.To, 10) + " " + strconv.FormatInt(a.W, 10) + "\n")
	}
	return b.String()
}

func TestGraphComesBackFromItsText(t *testing.T) {
	for _, g := range someGraphs() {
		s := impl.GraphText(g)
		if s != linesOf(g) {
			t.Fatalf("%v: %q", g, s)
		}
		if h, ok := impl.ReadGraph(s); !ok || !sameGraph(g, h) {
			t.Fatalf("%q: %v %v", s, h, ok)
		}
	}
}

func TestGraphTextsAsWritten(t *testing.T) {
	for s, g := range map[string]impl.Graph{
		"nodes 1\n":                          {N: 1},
		"nodes 24\n":                         {N: 24},
		"nodes 2\n0 1 1\n1 0 1000\n":         withArcs(2, impl.Arc{From: 0, To: 1, W: 1}, impl.Arc{From: 1, To: 0, W: 1000}),
		"nodes 24\n0 23 10\n2 1 9\n10 0 1\n": withArcs(24, impl.Arc{From: 0, To: 23, W: 10}, impl.Arc{From: 2, To: 1, W: 9}, impl.Arc{From: 10, To: 0, W: 1}),
	} {
		if impl.GraphText(g) != s {
			t.Errorf("%q is %q", s, impl.GraphText(g))
		}
		if h, ok := impl.ReadGraph(s); !ok || !sameGraph(g, h) {
			t.Errorf("%q: %v %v", s, h, ok)
		}
	}
}

func TestReadGraphRefusesTextsOfWrongGraphs(t *testing.T) {
	for _, x := range wrongGraphs() {
		if g, ok := impl.ReadGraph(linesOf(x.g)); ok || !zeroGraph(g) {
			t.Errorf("%s: %v %v", x.name, g, ok)
		}
	}
}

func TestReadGraphRefusesOtherTexts(t *testing.T) {
	for _, s := range []string{
		"", "\n", " ", "nodes", "nodes\n", "nodes ", "nodes \n", "3\n", "3", "0 1 7\n", "\x00", "\xff\xfe",
		"Nodes 3\n", "node 3\n", "nodess 3\n", "nodes3\n", "nodes\t3\n", " nodes 3\n", "nodes  3\n", "nodes 3 \n", "nodes 3\r\n", "\nnodes 3\n", "\ufeffnodes 3\n",
		"nodes 3", "nodes 03\n", "nodes 00\n", "nodes +3\n", "nodes -3\n", "nodes 3.\n", "nodes 3,\n", "nodes 0x3\n", "nodes 3_\n", "nodes a\n", "nodes 2/\n", "nodes 2:\n", "nodes \u0663\n",
		"nodes 0000000003\n", "nodes 999999999\n", "nodes 1000000000\n", "nodes 4294967299\n", "nodes 9223372036854775807\n", "nodes 9223372036854775808\n", "nodes 18446744073709551619\n", "nodes -9223372036854775808\n",
		"nodes 3\n\n", "nodes 3\n ", "nodes 3\n\x00", "nodes 3\nnodes 3\n", "nodes 3 0 1 7\n",
		"nodes 3\n0 1 7", "nodes 3\n0 1 7\n2 0 1", "nodes 3\n0 1 7\n\n", "nodes 3\n0 1 7\n ", "nodes 3\n\n0 1 7\n", "nodes 3\n0 1 7\r\n", "nodes 3\n0 1 7 \n", "nodes 3\n 0 1 7\n", "nodes 3\n0  1 7\n", "nodes 3\n0 1  7\n", "nodes 3\n0\t1 7\n", "nodes 3\n0 1\t7\n",
		"nodes 3\n0\n", "nodes 3\n0 1\n", "nodes 3\n0 1 \n", "nodes 3\n0 1 7 7\n", "nodes 3\n0 1\n7\n", "nodes 3\n0\n1 7\n", "nodes 3\n0 1 7 2 0 1\n", "nodes 3\n0 1 7\nx", "nodes 3\n0 1 7\nx\n",
		"nodes 3\n00 1 7\n", "nodes 3\n0 01 7\n", "nodes 3\n0 1 07\n", "nodes 3\n-0 1 7\n", "nodes 3\n0 +1 7\n", "nodes 3\n0 1 -7\n", "nodes 3\n0 1 7.0\n", "nodes 3\n0 1 a\n", "nodes 3\n0 1 7a\n",
		"nodes 3\n0 4294967297 7\n", "nodes 3\n18446744073709551616 1 7\n", "nodes 3\n0 1 18446744073709551623\n", "nodes 3\n0 1 9223372036854775808\n", "nodes 3\n0 1 0000000007\n",
		"nodes " + strings.Repeat("0", 1000) + "3\n", "nodes " + strings.Repeat("9", 100000) + "\n", "nodes 24\n" + strings.Repeat("0 1 7\n", 100000),
	} {
		if g, ok := impl.ReadGraph(s); ok || !zeroGraph(g) {
			t.Errorf("%.60q: %v %v", s, g, ok)
		}
	}
}

// A text that differs from a right one by a byte is that of another right graph, or of none.
func TestReadGraphReadsNothingButTexts(t *testing.T) {
	right := "nodes 12\n0 1 7\n0 11 1000\n3 0 10\n"
	for i := range len(right) + 1 {
		list := []string{right[:i]}
		if i < len(right) {
			list = append(list, right[:i]+right[i+1:])
		}
		for _, b := range []byte{0, '\n', '\r', '\t', ' ', '+', '-', '.', '/', ':', '0', '1', '2', '9', 'a', 255} {
			list = append(list, right[:i]+string([]byte{b})+right[i:])
			if i < len(right) {
				list = append(list, right[:i]+string([]byte{b})+right[i+1:])
			}
		}
		for _, s := range list {
			g, ok := impl.ReadGraph(s)
			if ok && (!impl.GraphOk(g) || impl.GraphText(g) != s) || !ok && !zeroGraph(g) {
				t.Errorf("%q: %v %v", s, g, ok)
			}
		}
	}
}

// allDistances is -1 where there is no way.
func allDistances(g impl.Graph) [][]int64 {
	d := make([][]int64, g.N)
	for u := range d {
		d[u] = slices.Repeat([]int64{-1}, int(g.N))
		d[u][u] = 0
	}
	for range g.N {
		for _, a := range g.Arcs {
			for s := range d {
				near := d[s][a.From]
				if near >= 0 && (d[s][a.To] < 0 || near+a.W < d[s][a.To]) {
					d[s][a.To] = near + a.W
				}
			}
		}
	}
	return d
}

func TestTurnedIsAsFarFromThereToHere(t *testing.T) {
	for _, g := range someGraphs() {
		h := impl.Reversed(g)
		if !impl.GraphOk(h) || h.N != g.N || len(h.Arcs) != len(g.Arcs) {
			t.Fatalf("%v turned is %v", g, h)
		}
		for _, a := range g.Arcs {
			if impl.WeightOf(h, a.To, a.From) != a.W {
				t.Fatalf("%v turned is %v", g, h)
			}
		}
		there, here := allDistances(g), allDistances(h)
		for u := range there {
			for v := range there {
				if there[u][v] != here[v][u] {
					t.Fatalf("%v: %d to %d", g, u, v)
				}
			}
		}
		if !sameGraph(impl.Reversed(h), g) {
			t.Fatalf("%v turned twice is %v", g, impl.Reversed(h))
		}
	}
}

func TestReversedAsWritten(t *testing.T) {
	g := withArcs(4, impl.Arc{From: 0, To: 1, W: 5}, impl.Arc{From: 0, To: 3, W: 6}, impl.Arc{From: 1, To: 0, W: 7}, impl.Arc{From: 2, To: 1, W: 8})
	if s := impl.GraphText(impl.Reversed(g)); s != "nodes 4\n0 1 7\n1 0 5\n1 2 8\n3 0 6\n" {
		t.Error(s)
	}
}

func TestOutsAndWeightOf(t *testing.T) {
	for _, g := range someGraphs() {
		places := append([]int64{g.N, g.N + 1}, extremes...)
		for v := range g.N {
			places = append(places, v)
		}
		for _, u := range places {
			var outs []impl.Arc
			weights := map[int64]int64{}
			for _, a := range g.Arcs {
				if a.From == u {
					outs = append(outs, a)
					weights[a.To] = a.W
				}
			}
			if l := impl.Outs(g, u); !slices.Equal(l, outs) {
				t.Fatalf("%v: outs of %d are %v", g, u, l)
			}
			for _, v := range places {
				if w := impl.WeightOf(g, u, v); w != weights[v] {
					t.Fatalf("%v: from %d to %d it weighs %d", g, u, v, w)
				}
			}
		}
	}
}

func TestWeighedHasThatWeightAndAllElseItsOwn(t *testing.T) {
	for _, g := range someGraphs() {
		for u := range g.N {
			for v := range g.N {
				for _, w := range []int64{0, 1, 17, impl.MaxW} {
					h, ok := impl.Weighed(g, u, v, w)
					full := len(g.Arcs) == impl.MaxArcs && impl.WeightOf(g, u, v) == 0 && w > 0
					if u == v || full {
						if ok || !zeroGraph(h) {
							t.Fatalf("%v: %d %d %d is %v", g, u, v, w, h)
						}
						continue
					}
					if want := weighedByHand(g, u, v, w); !ok || !sameGraph(h, want) {
						t.Fatalf("%v: %d %d %d is %v", g, u, v, w, h)
					}
				}
			}
		}
	}
}

func weighedByHand(g impl.Graph, u int64, v int64, w int64) impl.Graph {
	h := impl.Graph{N: g.N}
	for from := range g.N {
		for to := range g.N {
			weight := int64(0)
			for _, a := range g.Arcs {
				if a.From == from && a.To == to {
					weight = a.W
				}
			}
			if from == u && to == v {
				weight = w
			}
			if weight > 0 {
				h.Arcs = append(h.Arcs, impl.Arc{From: from, To: to, W: weight})
			}
		}
	}
	return h
}

func TestWeighedOfAFullGraph(t *testing.T) {
	full := firstArcs(impl.MaxNodes, impl.MaxArcs)
	first, last := full.Arcs[0], full.Arcs[impl.MaxArcs-1]
	if h, ok := impl.Weighed(full, 23, 22, 1); ok || !zeroGraph(h) {
		t.Error("one arc too many")
	}
	if h, ok := impl.Weighed(full, 23, 22, 0); !ok || !sameGraph(h, full) {
		t.Error("without an arc that is not there")
	}
	if h, ok := impl.Weighed(full, first.From, first.To, 999); !ok || len(h.Arcs) != impl.MaxArcs || impl.WeightOf(h, first.From, first.To) != 999 {
		t.Error("another weight", h)
	}
	h, ok := impl.Weighed(full, last.From, last.To, 0)
	if !ok || len(h.Arcs) != impl.MaxArcs-1 || !slices.Equal(h.Arcs, full.Arcs[:impl.MaxArcs-1]) {
		t.Error("without the last one", h)
	}
	h, ok = impl.Weighed(h, 23, 22, 1)
	if !ok || len(h.Arcs) != impl.MaxArcs || h.Arcs[impl.MaxArcs-1] != (impl.Arc{From: 23, To: 22, W: 1}) {
		t.Error("the last one that may be", h)
	}
}

func TestWeighedRefusals(t *testing.T) {
	g := withArcs(3, impl.Arc{From: 0, To: 1, W: 7}, impl.Arc{From: 2, To: 0, W: 9})
	refused := [][3]int64{{0, 0, 1}, {2, 2, 0}, {0, 3, 1}, {3, 0, 1}, {3, 3, 1}, {0, 3, 0}, {3, 0, 0}, {0, 1, -1}, {0, 1, impl.MaxW + 1}, {1, 2, -1}, {1, 2, impl.MaxW + 1}}
	for _, x := range extremes {
		refused = append(refused, [3]int64{x, 0, 1}, [3]int64{0, x, 1}, [3]int64{0, 1, x}, [3]int64{x, x, 0}, [3]int64{x, 0, 0}, [3]int64{0, x, 0})
	}
	for _, r := range refused {
		if h, ok := impl.Weighed(g, r[0], r[1], r[2]); ok || !zeroGraph(h) {
			t.Errorf("%v: %v %v", r, h, ok)
		}
	}
	for _, w := range []int64{0, 1, impl.MaxW} {
		if h, ok := impl.Weighed(g, 1, 2, w); !ok || impl.WeightOf(h, 1, 2) != w {
			t.Errorf("%d: %v %v", w, h, ok)
		}
	}
}

func TestGraphAnswersAreNewMemory(t *testing.T) {
	bad := impl.Arc{From: -7, To: -7, W: -7}
	arcs := []impl.Arc{{From: 0, To: 1, W: 7}, {From: 0, To: 2, W: 8}, {From: 2, To: 0, W: 9}}
	list, unchanged := guarded(t, arcs, bad)
	g := impl.Graph{N: 3, Arcs: list}
	answers := func() [][]impl.Arc {
		added, _ := impl.Weighed(g, 2, 1, 4)
		changed, _ := impl.Weighed(g, 0, 2, 4)
		same, _ := impl.Weighed(g, 1, 2, 0)
		less, _ := impl.Weighed(g, 0, 1, 0)
		read, _ := impl.ReadGraph(impl.GraphText(g))
		return [][]impl.Arc{impl.Reversed(g).Arcs, impl.Outs(g, 0), impl.Outs(g, 1), added.Arcs, changed.Arcs, same.Arcs, less.Arcs, read.Arcs}
	}
	first := answers()
	var was [][]impl.Arc
	for _, l := range first {
		was = append(was, slices.Clone(l))
	}
	impl.GraphOk(g)
	impl.WeightOf(g, 0, 1)
	unchanged()
	for _, l := range first {
		spoil(l, bad)
	}
	unchanged()
	for i, l := range answers() {
		if !slices.Equal(l, was[i]) {
			t.Errorf("answer %d was %v and is %v", i, was[i], l)
		}
	}
}
