package tests

import (
	"slices"
	"testing"

	"loop.example/g00546/impl"
)

const (
	mostWays     = 10
	mostWayNodes = 10
	mostWayArcs  = 30
)

// hasWays tells whether g is not too great for its ways to be told.
func hasWays(g impl.Graph) bool {
	return g.N <= mostWayNodes && len(g.Arcs) <= mostWayArcs
}

// wayGraphs are right ones, none too great: tied ones, and some of up to all nodes and arcs that there may be.
func wayGraphs() []impl.Graph {
	list := append(slices.DeleteFunc(tiedGraphs(), func(g impl.Graph) bool { return !hasWays(g) }), firstArcs(6, 30))
	r := &numbers{state: 23}
	for i := range 30 {
		g := impl.Graph{N: int64(mostWayNodes - i%3)}
		for range mostWayArcs {
			u, v := int64(r.below(int(g.N))), int64(r.below(int(g.N)))
			if h, ok := impl.Weighed(g, u, v, int64(1+r.below(1+i))); ok {
				g = h
			}
		}
		list = append(list, g)
	}
	return list
}

// fullWayGraph has 10 nodes and 30 arcs: each node leads to the three behind it, around a ring.
func fullWayGraph() impl.Graph {
	g := impl.Graph{N: mostWayNodes}
	for u := range g.N {
		for v := range g.N {
			if ahead := (v - u + g.N) % g.N; 1 <= ahead && ahead <= 3 {
				g.Arcs = append(g.Arcs, arc(u, v, ahead))
			}
		}
	}
	return g
}

func way(w int64, nodes ...int64) impl.Way {
	return impl.Way{Nodes: nodes, W: w}
}

func sameWays(a []impl.Way, b []impl.Way) bool {
	return slices.EqualFunc(a, b, func(x impl.Way, y impl.Way) bool {
		return x.W == y.W && slices.Equal(x.Nodes, y.Nodes)
	})
}

func TestWaysAsWritten(t *testing.T) {
	g := withArcs(5, arc(0, 1, 2), arc(0, 2, 5), arc(1, 2, 2), arc(1, 3, 6), arc(2, 3, 1), arc(3, 0, 4))
	all := []impl.Way{way(5, 0, 1, 2, 3), way(6, 0, 2, 3), way(8, 0, 1, 3)}
	// All of 0 to 4 are as long as each other.
	tied := withArcs(5, arc(0, 1, 1), arc(0, 2, 2), arc(0, 3, 3), arc(0, 4, 4), arc(1, 2, 1), arc(1, 3, 2), arc(1, 4, 3), arc(2, 3, 1), arc(2, 4, 2), arc(3, 4, 1))
	byNodes := []impl.Way{way(4, 0, 1, 2, 3, 4), way(4, 0, 1, 2, 4), way(4, 0, 1, 3, 4), way(4, 0, 1, 4), way(4, 0, 2, 3, 4), way(4, 0, 2, 4), way(4, 0, 3, 4), way(4, 0, 4)}
	for i, c := range []struct {
		g       impl.Graph
		s, t, k int64
		want    []impl.Way
	}{
		// More than are asked for, just as many, fewer.
		{g, 0, 3, 0, nil},
		{g, 0, 3, 1, all[:1]},
		{g, 0, 3, 2, all[:2]},
		{g, 0, 3, 3, all},
		{g, 0, 3, 4, all},
		{g, 0, 3, 10, all},
		// From a node to itself there is one alone, though there are ways around.
		{g, 0, 0, 10, []impl.Way{way(0, 0)}},
		{g, 0, 0, 1, []impl.Way{way(0, 0)}},
		{g, 0, 0, 0, nil},
		{g, 4, 4, 10, []impl.Way{way(0, 4)}},
		{impl.Graph{N: 1}, 0, 0, 10, []impl.Way{way(0, 0)}},
		// None at all.
		{g, 0, 4, 10, nil},
		{g, 4, 0, 10, nil},
		{impl.Graph{N: 10}, 0, 9, 1, nil},
		{g, 3, 2, 10, []impl.Way{way(8, 3, 0, 1, 2), way(9, 3, 0, 2)}},
		// The one of fewer nodes is farther, the one of more nodes is first.
		{withArcs(3, arc(0, 1, 1), arc(0, 2, 3), arc(1, 2, 1)), 0, 2, 2, []impl.Way{way(2, 0, 1, 2), way(3, 0, 2)}},
		{withArcs(3, arc(0, 1, 1), arc(0, 2, 1), arc(1, 2, 1)), 0, 2, 2, []impl.Way{way(1, 0, 2), way(2, 0, 1, 2)}},
		// As long as each other: by their nodes one by one, not by how many there are.
		{tied, 0, 4, 10, byNodes},
		{tied, 0, 4, 5, byNodes[:5]},
		{tied, 0, 4, 1, byNodes[:1]},
		{withArcs(4, arc(0, 1, 1), arc(0, 2, 1), arc(1, 3, 1), arc(2, 3, 1)), 0, 3, 2, []impl.Way{way(2, 0, 1, 3), way(2, 0, 2, 3)}},
		{withArcs(4, arc(0, 2, 1), arc(0, 3, 2), arc(2, 1, 1), arc(3, 1, 1)), 0, 1, 2, []impl.Way{way(2, 0, 2, 1), way(3, 0, 3, 1)}},
		{withArcs(5, arc(0, 1, 1), arc(2, 1, 2), arc(3, 0, 1), arc(4, 2, 1), arc(4, 3, 1)), 4, 1, 2, []impl.Way{way(3, 4, 2, 1), way(3, 4, 3, 0, 1)}},
		{chain(10, 1000), 0, 9, 10, []impl.Way{way(9000, 0, 1, 2, 3, 4, 5, 6, 7, 8, 9)}},
		{chain(10, 1000), 9, 0, 10, nil},
	} {
		if l := impl.WaysOf(c.g, c.s, c.t, c.k); !sameWays(l, c.want) {
			t.Errorf("%d: %v", i, l)
		}
	}
}

// Between two nodes that lead to each other, and on to others, a way stops at the first time that it is there.
func TestNoWayGoesOnBehindItsEnd(t *testing.T) {
	g := withArcs(4, arc(0, 1, 1), arc(1, 0, 1), arc(1, 2, 1), arc(2, 1, 1), arc(2, 3, 1), arc(3, 0, 1))
	for _, c := range []struct {
		s, t int64
		want []impl.Way
	}{
		{0, 1, []impl.Way{way(1, 0, 1)}},
		{1, 0, []impl.Way{way(1, 1, 0), way(3, 1, 2, 3, 0)}},
		{0, 3, []impl.Way{way(3, 0, 1, 2, 3)}},
		{3, 1, []impl.Way{way(2, 3, 0, 1)}},
		{2, 0, []impl.Way{way(2, 2, 1, 0), way(2, 2, 3, 0)}},
	} {
		if l := impl.WaysOf(g, c.s, c.t, 10); !sameWays(l, c.want) {
			t.Errorf("%d to %d: %v", c.s, c.t, l)
		}
	}
}

func TestWaysComeShortestFirstAndTheFirstOneIsTheFirstPath(t *testing.T) {
	for _, g := range wayGraphs() {
		for u := range g.N {
			for v := range g.N {
				walks := walksOf(g, u, v)
				for k := range int64(mostWays + 1) {
					var want []impl.Way
					for _, w := range walks[:min(int(k), len(walks))] {
						want = append(want, way(w.length, w.nodes...))
					}
					if l := impl.WaysOf(g, u, v, k); !sameWays(l, want) {
						t.Fatalf("%v, %d from %d to %d: %v, not %v", g, k, u, v, l, want)
					}
				}
				path, ok := impl.PathOf(g, u, v)
				l := impl.WaysOf(g, u, v, 1)
				if ok != (len(l) == 1) || ok && (!slices.Equal(l[0].Nodes, path) || l[0].W != impl.DistOf(g, u, v)) {
					t.Fatalf("%v, %d to %d: %v, but %v", g, u, v, l, path)
				}
			}
		}
	}
}

func TestEachWayIsAPathOfItsLength(t *testing.T) {
	for _, g := range wayGraphs() {
		for _, p := range somePairs(g) {
			l := impl.WaysOf(g, p[0], p[1], mostWays)
			for i, x := range l {
				length, ok := impl.LengthOf(g, x.Nodes)
				unlike := slices.Compact(slices.Sorted(slices.Values(x.Nodes)))
				if !ok || length != x.W || len(unlike) != len(x.Nodes) || x.Nodes[0] != p[0] || x.Nodes[len(x.Nodes)-1] != p[1] {
					t.Fatalf("%v %v: %v", g, p, x)
				}
				if i > 0 && (l[i-1].W > x.W || l[i-1].W == x.W && slices.Compare(l[i-1].Nodes, x.Nodes) >= 0) {
					t.Fatalf("%v %v: %v ahead of %v", g, p, l[i-1], x)
				}
			}
		}
	}
}

func TestHowGreatAGraphMayBeForItsWays(t *testing.T) {
	full := fullWayGraph()
	if full.N != 10 || len(full.Arcs) != 30 || !impl.GraphOk(full) {
		t.Fatal(full)
	}
	for k, want := range map[int64]int{-1: 0, 0: 0, 1: 1, 2: 2, 9: 9, 10: 10, 11: 0, 12: 0} {
		if l := impl.WaysOf(full, 0, 9, k); len(l) != want {
			t.Errorf("%d: %v", k, l)
		}
	}
	nodeMore := impl.Graph{N: 11, Arcs: full.Arcs}
	nodeMoreArcsLess := impl.Graph{N: 11, Arcs: full.Arcs[:5]}
	arcMore, _ := impl.Weighed(full, 5, 4, 1000)
	for i, g := range []impl.Graph{nodeMore, nodeMoreArcsLess, arcMore, firstArcs(7, 31), firstArcs(12, 132), firstArcs(impl.MaxNodes, impl.MaxArcs), {N: impl.MaxNodes}, {N: 11}} {
		for _, k := range []int64{0, 1, 10, 11, -1} {
			for _, p := range [][2]int64{{0, 1}, {0, 0}, {5, 0}, {0, g.N - 1}} {
				if l := impl.WaysOf(g, p[0], p[1], k); !impl.GraphOk(g) || len(l) != 0 {
					t.Errorf("%d, %d of %v: %v", i, k, p, l)
				}
			}
			// Too great, and s or t no node: both at once.
			for _, p := range [][2]int64{{g.N, 0}, {0, g.N}, {-1, 0}, {0, -1}, {extremes[0], 0}, {0, extremes[6]}} {
				if l := impl.WaysOf(g, p[0], p[1], k); len(l) != 0 {
					t.Errorf("%d, %d of %v: %v", i, k, p, l)
				}
			}
		}
	}
	// Each limit alone is met exactly.
	for i, g := range []impl.Graph{full, {N: 10, Arcs: full.Arcs[:29]}, {N: 9, Arcs: firstArcs(9, 30).Arcs}, firstArcs(6, 30), {N: 10, Arcs: []impl.Arc{arc(0, 1, 1)}}} {
		if l := impl.WaysOf(g, 0, 1, 10); len(l) == 0 {
			t.Errorf("%d: none", i)
		}
	}
}

func TestWaysThatAreNotSo(t *testing.T) {
	for _, x := range wrongGraphs() {
		for _, p := range [][2]int64{{0, 0}, {0, 1}, {1, 2}, {-1, 0}, {0, -1}} {
			for _, k := range []int64{-1, 0, 1, 10, 11} {
				if l := impl.WaysOf(x.g, p[0], p[1], k); len(l) != 0 {
					t.Errorf("%s %v: %v", x.name, p, l)
				}
			}
		}
	}
	for _, g := range []impl.Graph{{N: 1}, chain(5, 1), fullWayGraph()} {
		for _, p := range noneOnTheWay(g) {
			for _, k := range []int64{1, 10} {
				if l := impl.WaysOf(g, p[0], p[1], k); len(l) != 0 {
					t.Errorf("%v %v: %v", g, p, l)
				}
			}
		}
		for _, k := range append([]int64{-1, -2, 11, 12, 100}, extremes...) {
			if l := impl.WaysOf(g, 0, g.N-1, k); len(l) != 0 {
				t.Errorf("%v: %d of %v", g, k, l)
			}
		}
	}
}

func TestDetoursAsWritten(t *testing.T) {
	g := withArcs(5, arc(0, 1, 2), arc(0, 2, 5), arc(1, 2, 2), arc(1, 3, 6), arc(2, 3, 1), arc(3, 0, 4))
	for _, c := range []struct{ s, t, u, v, want int64 }{
		// On the path.
		{0, 3, 0, 1, 6}, {0, 3, 1, 2, 6}, {0, 3, 2, 3, 8}, {3, 2, 3, 0, -1}, {3, 3, 3, 0, 0}, {0, 1, 0, 1, -1},
		// Not on it.
		{0, 3, 0, 2, 5}, {0, 3, 1, 3, 5}, {0, 3, 3, 0, 5}, {3, 0, 0, 1, 4},
		// Not there at all, in either sense of it, or from a node to itself.
		{0, 3, 0, 3, 5}, {0, 3, 1, 0, 5}, {0, 3, 3, 2, 5}, {0, 3, 4, 0, 5}, {0, 3, 0, 4, 5}, {0, 3, 0, 0, 5}, {0, 3, 2, 2, 5},
		// Ends that are no nodes.
		{0, 3, 5, 0, 5}, {0, 3, 0, 5, 5}, {0, 3, -1, 0, 5}, {0, 3, 0, -1, 5}, {0, 3, -1, -1, 5}, {0, 3, 24, 25, 5},
		// No way with it, no way without it.
		{0, 4, 0, 1, -1}, {4, 0, 3, 0, -1}, {0, 4, 9, 9, -1}, {4, 4, 0, 1, 0},
	} {
		if d := impl.Detour(g, c.s, c.t, c.u, c.v); d != c.want {
			t.Errorf("%v: %d", c, d)
		}
	}
	for _, x := range extremes {
		for _, ends := range [][2]int64{{x, 0}, {0, x}, {x, x}, {x, 3}, {2, x}} {
			if d := impl.Detour(g, 0, 3, ends[0], ends[1]); d != 5 {
				t.Errorf("without %v: %d", ends, d)
			}
		}
	}
}

func TestDetourIsTheDistanceWithoutTheArc(t *testing.T) {
	r := &numbers{state: 24}
	for _, g := range append(someGraphs(), tiedGraphs()...) {
		ends := [][2]int64{{int64(r.below(int(g.N))), int64(r.below(int(g.N)))}, {g.N, 0}}
		for i, a := range g.Arcs {
			if len(g.Arcs) <= 20 || i%9 == 0 {
				ends = append(ends, [2]int64{a.From, a.To})
			}
		}
		for _, e := range ends {
			rest := allDistances(weighedByHand(g, e[0], e[1], 0))
			for _, p := range somePairs(g) {
				if d := impl.Detour(g, p[0], p[1], e[0], e[1]); d != rest[p[0]][p[1]] {
					t.Fatalf("%v, %v without %v: %d, not %d", g, p, e, d, rest[p[0]][p[1]])
				}
			}
		}
	}
}

func TestVitalAsWritten(t *testing.T) {
	g := withArcs(5, arc(0, 1, 2), arc(0, 2, 5), arc(1, 2, 2), arc(1, 3, 6), arc(2, 3, 1), arc(3, 0, 4))
	long := chain(impl.MaxNodes, impl.MaxW)
	for i, c := range []struct {
		g    impl.Graph
		s, t int64
		want []impl.Arc
	}{
		// One path that is shortest, and others.
		{g, 0, 3, []impl.Arc{arc(0, 1, 2), arc(1, 2, 2), arc(2, 3, 1)}},
		{g, 3, 0, []impl.Arc{arc(3, 0, 4)}},
		// In the order of the graph, not in that of the path.
		{g, 3, 2, []impl.Arc{arc(0, 1, 2), arc(1, 2, 2), arc(3, 0, 4)}},
		{withArcs(4, arc(1, 2, 1), arc(2, 0, 1), arc(3, 1, 1)), 3, 0, []impl.Arc{arc(1, 2, 1), arc(2, 0, 1), arc(3, 1, 1)}},
		{impl.Reversed(long), 23, 0, impl.Reversed(long).Arcs},
		{long, 0, 23, long.Arcs},
		{long, 3, 5, long.Arcs[3:5]},
		// s is t, with and without arcs.
		{g, 0, 0, nil}, {g, 4, 4, nil}, {impl.Graph{N: 1}, 0, 0, nil},
		{withArcs(2, arc(0, 1, 1), arc(1, 0, 1)), 0, 0, nil},
		// t is not reached.
		{g, 0, 4, nil}, {g, 4, 0, nil}, {long, 23, 0, nil}, {impl.Graph{N: 2}, 0, 1, nil},
		// Two shortest paths share the last arc, the first one, the middle one, two, none.
		{withArcs(4, arc(0, 1, 2), arc(0, 2, 4), arc(1, 2, 2), arc(2, 3, 1)), 0, 3, []impl.Arc{arc(2, 3, 1)}},
		{withArcs(4, arc(0, 1, 1), arc(1, 2, 2), arc(1, 3, 4), arc(2, 3, 2)), 0, 3, []impl.Arc{arc(0, 1, 1)}},
		{withArcs(6, arc(0, 1, 1), arc(0, 2, 2), arc(1, 2, 1), arc(2, 3, 7), arc(3, 4, 1), arc(3, 5, 2), arc(4, 5, 1)), 0, 5, []impl.Arc{arc(2, 3, 7)}},
		{withArcs(5, arc(0, 1, 7), arc(1, 2, 1), arc(1, 3, 2), arc(2, 3, 1), arc(3, 4, 7)), 0, 4, []impl.Arc{arc(0, 1, 7), arc(3, 4, 7)}},
		{withArcs(4, arc(0, 1, 1), arc(0, 2, 1), arc(1, 3, 1), arc(2, 3, 1)), 0, 3, nil},
		{withArcs(3, arc(0, 1, 1), arc(0, 2, 2), arc(1, 2, 1)), 0, 2, nil},
		// The other way is longer by one, or as long.
		{withArcs(3, arc(0, 1, 1), arc(0, 2, 3), arc(1, 2, 1)), 0, 2, []impl.Arc{arc(0, 1, 1), arc(1, 2, 1)}},
		{withArcs(3, arc(0, 1, 1), arc(0, 2, 1), arc(1, 2, 1)), 0, 2, []impl.Arc{arc(0, 2, 1)}},
		// Each of three paths goes over some of the arcs of another one, and one arc is on all.
		{withArcs(6, arc(0, 1, 1), arc(0, 2, 1), arc(1, 3, 2), arc(2, 3, 2), arc(3, 4, 1), arc(3, 5, 2), arc(4, 5, 1), arc(5, 0, 1)), 0, 5, nil},
		{withArcs(6, arc(0, 1, 1), arc(0, 2, 1), arc(1, 3, 2), arc(2, 3, 2), arc(3, 4, 1), arc(4, 5, 1), arc(5, 0, 1)), 0, 5, []impl.Arc{arc(3, 4, 1), arc(4, 5, 1)}},
	} {
		if l := impl.Vital(c.g, c.s, c.t); !slices.Equal(l, c.want) {
			t.Errorf("%d: %v", i, l)
		}
	}
}

func TestJustWithoutAVitalArcItIsFarther(t *testing.T) {
	for _, g := range append(someGraphs(), tiedGraphs()...) {
		all := allDistances(g)
		pairs := somePairs(g)
		want := make([][]impl.Arc, len(pairs))
		for _, a := range g.Arcs {
			rest := allDistances(weighedByHand(g, a.From, a.To, 0))
			for i, p := range pairs {
				if was, now := all[p[0]][p[1]], rest[p[0]][p[1]]; now > was || now < 0 && was >= 0 {
					want[i] = append(want[i], a)
				}
			}
		}
		for i, p := range pairs {
			if l := impl.Vital(g, p[0], p[1]); !slices.Equal(l, want[i]) {
				t.Fatalf("%v %v: %v, not %v", g, p, l, want[i])
			}
		}
	}
}

// In small graphs the vital arcs are those that all shortest ways have.
func TestVitalArcsAreOnAllShortestWays(t *testing.T) {
	for _, g := range tiedGraphs() {
		for _, p := range somePairs(g) {
			walks := walksOf(g, p[0], p[1])
			var want []impl.Arc
			for _, a := range g.Arcs {
				on := len(walks) > 0
				for _, w := range walks {
					place := slices.Index(w.nodes, a.From)
					over := place >= 0 && place+1 < len(w.nodes) && w.nodes[place+1] == a.To
					if w.length == walks[0].length && !over {
						on = false
					}
				}
				if on {
					want = append(want, a)
				}
			}
			if l := impl.Vital(g, p[0], p[1]); !slices.Equal(l, want) {
				t.Fatalf("%v %v: %v, not %v", g, p, l, want)
			}
		}
	}
}

func noDetour(t *testing.T, name string, g impl.Graph, u int64, v int64) {
	t.Helper()
	for _, ends := range [][2]int64{{0, 1}, {1, 0}, {0, 0}, {u, v}, {-1, 9}, {extremes[0], extremes[6]}} {
		if d := impl.Detour(g, u, v, ends[0], ends[1]); d != -1 {
			t.Errorf("%s: %d to %d without %v is %d", name, u, v, ends, d)
		}
	}
	if l := impl.Vital(g, u, v); len(l) != 0 {
		t.Errorf("%s: %d to %d: %v", name, u, v, l)
	}
}

func TestDetoursThatAreNotSo(t *testing.T) {
	for _, x := range wrongGraphs() {
		for _, p := range [][2]int64{{0, 0}, {0, 1}, {1, 0}, {1, 2}, {-1, 0}, {0, -1}} {
			noDetour(t, x.name, x.g, p[0], p[1])
		}
	}
	for _, g := range []impl.Graph{{N: 1}, chain(5, 1), firstArcs(12, 132), firstArcs(impl.MaxNodes, impl.MaxArcs)} {
		for _, p := range noneOnTheWay(g) {
			noDetour(t, "no node", g, p[0], p[1])
		}
	}
}

func TestWayAnswersAreNewMemory(t *testing.T) {
	arcs, unchanged := guarded(t, firstArcs(5, 20).Arcs, arc(-7, -7, -7))
	g := impl.Graph{N: 5, Arcs: arcs}
	holdTwice(t, func() [][]int64 {
		var list [][]int64
		for _, k := range []int64{10, 3, 1} {
			for _, x := range impl.WaysOf(g, 0, 4, k) {
				list = append(list, x.Nodes, []int64{x.W})
			}
		}
		for _, x := range impl.WaysOf(g, 2, 2, 4) {
			list = append(list, x.Nodes)
		}
		return append(list, []int64{impl.Detour(g, 0, 4, 0, 1), impl.Detour(g, 0, 4, 9, 1)})
	})
	for range 2 {
		l := impl.WaysOf(g, 0, 4, 10)
		if len(l) != 10 || l[0].W != impl.DistOf(g, 0, 4) {
			t.Fatal(l)
		}
		spoil(l, impl.Way{})
		vital := impl.Vital(g, 0, 4)
		if !slices.Equal(vital, []impl.Arc{arc(0, 4, 5)}) {
			t.Fatal(vital)
		}
		spoil(vital, arc(-9, -9, -9))
	}
	unchanged()
}
