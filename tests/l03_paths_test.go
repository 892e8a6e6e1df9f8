package tests

import (
	"cmp"
	"slices"
	"testing"

	"loop.example/g00546/impl"
)

const far = impl.MaxNodes * impl.MaxW

// chain leads from each node to the next one.
func chain(n int64, w int64) impl.Graph {
	g := impl.Graph{N: n}
	for v := range n - 1 {
		g.Arcs = append(g.Arcs, impl.Arc{From: v, To: v + 1, W: w})
	}
	return g
}

// tiedGraphs are small ones with so few unlike weights that many paths are equally long.
func tiedGraphs() []impl.Graph {
	var list []impl.Graph
	r := &numbers{state: 4}
	for i := range 150 {
		g := impl.Graph{N: int64(1 + r.below(7))}
		sparse := 1 + r.below(4)
		for u := range g.N {
			for v := range g.N {
				if u != v && r.below(sparse) == 0 {
					g.Arcs = append(g.Arcs, impl.Arc{From: u, To: v, W: int64(1 + r.below(1+i%4))})
				}
			}
		}
		list = append(list, g)
	}
	return list
}

type walk struct {
	nodes  []int64
	length int64
}

// walksOf are all paths that come to no node twice, by length, then by their nodes.
func walksOf(g impl.Graph, s int64, t int64) []walk {
	var list []walk
	var on func(nodes []int64, length int64)
	on = func(nodes []int64, length int64) {
		last := nodes[len(nodes)-1]
		if last == t {
			list = append(list, walk{slices.Clone(nodes), length})
			return
		}
		for _, a := range g.Arcs {
			if a.From == last && !slices.Contains(nodes, a.To) {
				on(append(slices.Clone(nodes), a.To), length+a.W)
			}
		}
	}
	on([]int64{s}, 0)
	slices.SortFunc(list, func(a walk, b walk) int {
		return cmp.Or(cmp.Compare(a.length, b.length), slices.Compare(a.nodes, b.nodes))
	})
	return list
}

// noNodes are numbers that are no node of g.
func noNodes(g impl.Graph) []int64 {
	list := []int64{-1, -2, g.N, g.N + 1, impl.MaxNodes, impl.MaxNodes + 1, impl.MaxW, far}
	return append(list, extremes...)
}

// noneOnTheWay are pairs of which at least one is no node of g.
func noneOnTheWay(g impl.Graph) [][2]int64 {
	var list [][2]int64
	for _, x := range noNodes(g) {
		list = append(list, [2]int64{x, 0}, [2]int64{0, x}, [2]int64{x, x}, [2]int64{x, g.N - 1}, [2]int64{g.N - 1, x})
	}
	return list
}

func TestDistancesAsWritten(t *testing.T) {
	late := withArcs(4, arc(0, 1, 100), arc(0, 2, 1), arc(0, 3, 50), arc(2, 3, 1), arc(3, 1, 1))
	for i, c := range []struct {
		g    impl.Graph
		s    int64
		want []int64
	}{
		{impl.Graph{N: 1}, 0, []int64{0}},
		{impl.Graph{N: 3}, 1, []int64{-1, 0, -1}},
		{withArcs(2, arc(0, 1, 1000)), 0, []int64{0, 1000}},
		{withArcs(2, arc(0, 1, 1000)), 1, []int64{-1, 0}},
		{late, 0, []int64{0, 3, 1, 2}},
		{late, 1, []int64{-1, 0, -1, -1}},
		{late, 2, []int64{-1, 2, 0, 1}},
		{withArcs(3, arc(0, 1, 2), arc(1, 0, 3), arc(1, 2, 4), arc(2, 1, 5)), 2, []int64{8, 5, 0}},
		{withArcs(3, arc(0, 1, 1), arc(0, 2, 2), arc(1, 2, 1)), 0, []int64{0, 1, 2}},
		{withArcs(5, arc(0, 1, 7), arc(1, 0, 7), arc(2, 3, 1), arc(3, 4, 1)), 0, []int64{0, 7, -1, -1, -1}},
	} {
		if d := impl.DistFrom(c.g, c.s); !slices.Equal(d, c.want) {
			t.Errorf("%d: %v", i, d)
		}
		for v, want := range c.want {
			if d := impl.DistOf(c.g, c.s, int64(v)); d != want {
				t.Errorf("%d: to %d it is %d", i, v, d)
			}
		}
	}
}

func TestTheGreatestDistance(t *testing.T) {
	g := chain(impl.MaxNodes, impl.MaxW)
	for v, d := range impl.DistFrom(g, 0) {
		if d != int64(v)*1000 {
			t.Errorf("%d is %d away", v, d)
		}
	}
	if d := impl.DistOf(g, 0, impl.MaxNodes-1); d != 23000 {
		t.Error(d)
	}
	if d := impl.DistOf(g, impl.MaxNodes-1, 0); d != -1 {
		t.Error(d)
	}
	p, ok := impl.PathOf(g, 0, impl.MaxNodes-1)
	if !ok || len(p) != impl.MaxNodes || !slices.Equal(p, impl.OnShortest(g, 0, impl.MaxNodes-1)) {
		t.Error(p, ok)
	}
}

// nearestByAnArc is how far v is when all nodes from which an arc leads to it are as far as d says.
func nearestByAnArc(g impl.Graph, d []int64, s int64, v int64) int64 {
	if v == s {
		return 0
	}
	least := int64(-1)
	for _, a := range g.Arcs {
		if a.To == v && d[a.From] >= 0 && (least < 0 || d[a.From]+a.W < least) {
			least = d[a.From] + a.W
		}
	}
	return least
}

func TestEachNodeIsAsFarAsTheNearestWayOverAnArc(t *testing.T) {
	for _, g := range append(someGraphs(), tiedGraphs()...) {
		all := allDistances(g)
		for s := range g.N {
			d := impl.DistFrom(g, s)
			if !slices.Equal(d, all[s]) {
				t.Fatalf("%v from %d: %v", g, s, d)
			}
			for v := range g.N {
				if d[v] != nearestByAnArc(g, d, s, v) || d[v] != impl.DistOf(g, s, v) {
					t.Fatalf("%v from %d to %d: %d", g, s, v, d[v])
				}
			}
		}
	}
}

func TestTurnedItIsAsFarByDistOf(t *testing.T) {
	for _, g := range append(someGraphs(), tiedGraphs()...) {
		h := impl.Reversed(g)
		for u := range g.N {
			for v := range g.N {
				if there, here := impl.DistOf(g, u, v), impl.DistOf(h, v, u); there != here {
					t.Fatalf("%v: %d to %d is %d, turned %d", g, u, v, there, here)
				}
			}
		}
	}
}

func TestPathsAsWritten(t *testing.T) {
	tied := withArcs(5, arc(0, 1, 2), arc(0, 2, 1), arc(0, 3, 4), arc(1, 3, 2), arc(2, 1, 1), arc(2, 3, 3))
	for i, c := range []struct {
		g    impl.Graph
		s, t int64
		path []int64
		on   []int64
	}{
		{impl.Graph{N: 1}, 0, 0, []int64{0}, []int64{0}},
		{impl.Graph{N: 2}, 0, 1, nil, nil},
		{tied, 0, 3, []int64{0, 1, 3}, []int64{0, 1, 2, 3}},
		{tied, 0, 1, []int64{0, 1}, []int64{0, 1, 2}},
		{tied, 2, 3, []int64{2, 1, 3}, []int64{1, 2, 3}},
		{tied, 3, 3, []int64{3}, []int64{3}},
		{tied, 3, 0, nil, nil},
		{tied, 4, 0, nil, nil},
		{tied, 0, 4, nil, nil},
		{withArcs(3, arc(0, 1, 3), arc(0, 2, 1), arc(2, 1, 1)), 0, 1, []int64{0, 2, 1}, []int64{0, 1, 2}},
		{withArcs(3, arc(0, 1, 2), arc(0, 2, 1), arc(2, 1, 1)), 0, 1, []int64{0, 1}, []int64{0, 1, 2}},
		{withArcs(3, arc(0, 1, 1), arc(0, 2, 1), arc(2, 1, 1)), 0, 1, []int64{0, 1}, []int64{0, 1}},
		// The least node next to the first one, though a lesser one comes later on the other path.
		{withArcs(5, arc(0, 1, 5), arc(2, 1, 2), arc(3, 0, 1), arc(4, 2, 5), arc(4, 3, 1)), 4, 1, []int64{4, 2, 1}, []int64{0, 1, 2, 3, 4}},
		// A node from which one does not get there is passed by, though its arc is as light as what is left and one more.
		{withArcs(3, arc(0, 1, 3), arc(0, 2, 2)), 0, 2, []int64{0, 2}, []int64{0, 2}},
		{withArcs(4, arc(2, 0, 8), arc(2, 1, 6), arc(2, 3, 7)), 2, 3, []int64{2, 3}, []int64{2, 3}},
	} {
		if p, ok := impl.PathOf(c.g, c.s, c.t); ok != (len(c.path) > 0) || !slices.Equal(p, c.path) {
			t.Errorf("%d: %v %v", i, p, ok)
		}
		if l := impl.OnShortest(c.g, c.s, c.t); !slices.Equal(l, c.on) {
			t.Errorf("%d: on %v", i, l)
		}
	}
}

func TestAPathIsTheFirstOfTheShortest(t *testing.T) {
	for _, g := range tiedGraphs() {
		for u := range g.N {
			for v := range g.N {
				walks := walksOf(g, u, v)
				p, ok := impl.PathOf(g, u, v)
				if len(walks) == 0 {
					if ok || len(p) != 0 || impl.DistOf(g, u, v) != -1 {
						t.Fatalf("%v: %d to %d: %v %v", g, u, v, p, ok)
					}
					continue
				}
				if !ok || !slices.Equal(p, walks[0].nodes) || impl.DistOf(g, u, v) != walks[0].length {
					t.Fatalf("%v: %d to %d: %v %v", g, u, v, p, walks[0])
				}
			}
		}
	}
}

func TestOnTheShortestPathsAreJustTheirNodes(t *testing.T) {
	for _, g := range tiedGraphs() {
		for u := range g.N {
			for v := range g.N {
				var want []int64
				walks := walksOf(g, u, v)
				for _, w := range walks {
					if w.length == walks[0].length {
						want = append(want, w.nodes...)
					}
				}
				slices.Sort(want)
				if l := impl.OnShortest(g, u, v); !slices.Equal(l, slices.Compact(want)) {
					t.Fatalf("%v: %d to %d: %v", g, u, v, l)
				}
			}
		}
	}
}

func TestPathsOfAllGraphs(t *testing.T) {
	for _, g := range someGraphs() {
		all := allDistances(g)
		for u := range g.N {
			for v := range g.N {
				p, ok := impl.PathOf(g, u, v)
				l := impl.OnShortest(g, u, v)
				if all[u][v] < 0 {
					if ok || len(p) != 0 || len(l) != 0 {
						t.Fatalf("%v: %d to %d: %v %v %v", g, u, v, p, ok, l)
					}
					continue
				}
				length, right := impl.LengthOf(g, p)
				if !ok || !right || length != all[u][v] || p[0] != u || p[len(p)-1] != v {
					t.Fatalf("%v: %d to %d: %v %v", g, u, v, p, ok)
				}
				var on []int64
				for x := range g.N {
					if all[u][x] >= 0 && all[x][v] >= 0 && all[u][x]+all[x][v] == all[u][v] {
						on = append(on, x)
					}
				}
				if !slices.Equal(l, on) {
					t.Fatalf("%v: %d to %d: on %v", g, u, v, l)
				}
			}
		}
	}
}

func TestLengthsAsWritten(t *testing.T) {
	g := withArcs(4, impl.Arc{From: 0, To: 1, W: 7}, impl.Arc{From: 1, To: 0, W: 5}, impl.Arc{From: 1, To: 2, W: 1000}, impl.Arc{From: 2, To: 0, W: 1})
	for _, c := range []struct {
		p    []int64
		want int64
	}{
		{[]int64{0}, 0}, {[]int64{3}, 0}, {[]int64{0, 1}, 7}, {[]int64{1, 0}, 5}, {[]int64{0, 1, 2}, 1007},
		{[]int64{0, 1, 0, 1, 0}, 24}, {[]int64{0, 1, 2, 0, 1}, 1015}, {[]int64{2, 0, 1, 2}, 1008},
	} {
		if n, ok := impl.LengthOf(g, c.p); !ok || n != c.want {
			t.Errorf("%v: %d %v", c.p, n, ok)
		}
	}
}

// toAndFro goes between nodes 0 and 1.
func toAndFro(count int) []int64 {
	var p []int64
	for i := range int64(count) {
		p = append(p, i%2)
	}
	return p
}

func TestLengthsOfLongPaths(t *testing.T) {
	g := withArcs(2, impl.Arc{From: 0, To: 1, W: 1000}, impl.Arc{From: 1, To: 0, W: 999})
	for count, want := range map[int]int64{1: 0, 2: 1000, 3: 1999, 999: 499*1000 + 499*999, 1000: 500*1000 + 499*999} {
		if n, ok := impl.LengthOf(g, toAndFro(count)); !ok || n != want {
			t.Errorf("%d nodes: %d %v", count, n, ok)
		}
	}
	for _, count := range []int{0, 1001, 1002, 100000} {
		if n, ok := impl.LengthOf(g, toAndFro(count)); ok || n != 0 {
			t.Errorf("%d nodes: %d %v", count, n, ok)
		}
	}
}

func TestLengthOfRefusals(t *testing.T) {
	g := withArcs(4, impl.Arc{From: 0, To: 1, W: 7}, impl.Arc{From: 1, To: 0, W: 5}, impl.Arc{From: 1, To: 2, W: 1000}, impl.Arc{From: 2, To: 0, W: 1})
	refused := [][]int64{nil, {}, {0, 0}, {3, 3}, {0, 2}, {2, 1}, {3, 0}, {0, 3}, {1, 0, 2}, {0, 1, 2, 1}, {0, 1, 1, 2}, {0, 1, 2, 3}}
	for _, x := range noNodes(g) {
		refused = append(refused, []int64{x}, []int64{x, 0}, []int64{0, x}, []int64{0, x, 1}, []int64{0, 1, x}, []int64{x, x})
	}
	for _, p := range refused {
		if n, ok := impl.LengthOf(g, p); ok || n != 0 {
			t.Errorf("%v: %d %v", p, n, ok)
		}
	}
}

func TestPathsOfWrongGraphs(t *testing.T) {
	for _, x := range wrongGraphs() {
		for u := int64(-1); u < 4; u++ {
			if d := impl.DistFrom(x.g, u); len(d) != 0 {
				t.Errorf("%s: from %d %v", x.name, u, d)
			}
			for v := int64(-1); v < 4; v++ {
				noPaths(t, x.g, u, v)
				if n, ok := impl.LengthOf(x.g, []int64{u, v}); ok || n != 0 {
					t.Errorf("%s: from %d to %d %d %v", x.name, u, v, n, ok)
				}
			}
			if n, ok := impl.LengthOf(x.g, []int64{u}); ok || n != 0 {
				t.Errorf("%s: %d is %d %v", x.name, u, n, ok)
			}
		}
	}
}

func noPaths(t *testing.T, g impl.Graph, u int64, v int64) {
	t.Helper()
	if d := impl.DistOf(g, u, v); d != -1 {
		t.Errorf("%v: %d to %d is %d", g, u, v, d)
	}
	if p, ok := impl.PathOf(g, u, v); ok || len(p) != 0 {
		t.Errorf("%v: %d to %d %v %v", g, u, v, p, ok)
	}
	if l := impl.OnShortest(g, u, v); len(l) != 0 {
		t.Errorf("%v: %d to %d on %v", g, u, v, l)
	}
}

func TestPathsOfWhatIsNoNode(t *testing.T) {
	for _, g := range []impl.Graph{{N: 1}, chain(5, 1), firstArcs(12, 132), firstArcs(impl.MaxNodes, impl.MaxArcs)} {
		for _, x := range noNodes(g) {
			if d := impl.DistFrom(g, x); len(d) != 0 {
				t.Errorf("from %d: %v", x, d)
			}
		}
		for _, pair := range noneOnTheWay(g) {
			noPaths(t, g, pair[0], pair[1])
		}
	}
}

func TestPathAnswersAreNewMemory(t *testing.T) {
	arcs, arcsUnchanged := guarded(t, firstArcs(6, 30).Arcs, impl.Arc{From: -7, To: -7, W: -7})
	p, pathUnchanged := guarded(t, []int64{0, 1, 2, 0, 5}, -7)
	g := impl.Graph{N: 6, Arcs: arcs}
	answers := func() [][]int64 {
		length, _ := impl.LengthOf(g, p)
		path, _ := impl.PathOf(g, 0, 5)
		here, _ := impl.PathOf(g, 2, 2)
		return [][]int64{{length, impl.DistOf(g, 0, 5)}, path, here, impl.DistFrom(g, 3), impl.OnShortest(g, 0, 5)}
	}
	holdTwice(t, answers)
	arcsUnchanged()
	pathUnchanged()
}
