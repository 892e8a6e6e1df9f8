package tests

import (
	"slices"
	"testing"

	"loop.example/g00546/impl"
)

const (
	mostLevels    = 5
	mostLevelArcs = impl.MaxNodes * impl.MaxNodes
)

// levelByHand is that of these nodes when all are so far apart.
func levelByHand(all [][]int64, nodes []int64) impl.Level {
	l := impl.Level{Nodes: slices.Sorted(slices.Values(nodes))}
	for _, u := range l.Nodes {
		for _, v := range l.Nodes {
			needed := u != v && all[u][v] >= 0
			for _, x := range nodes {
				if x != u && x != v && all[u][x] >= 0 && all[x][v] >= 0 && all[u][x]+all[x][v] <= all[u][v] {
					needed = false
				}
			}
			if needed {
				l.Arcs = append(l.Arcs, arc(u, v, all[u][v]))
			}
		}
	}
	return l
}

func sameLevel(a impl.Level, b impl.Level) bool {
	return slices.Equal(a.Nodes, b.Nodes) && slices.Equal(a.Arcs, b.Arcs)
}

func zeroLevel(l impl.Level) bool {
	return len(l.Nodes) == 0 && len(l.Arcs) == 0
}

func cloneLevel(l impl.Level) impl.Level {
	return impl.Level{Nodes: slices.Clone(l.Nodes), Arcs: slices.Clone(l.Arcs)}
}

// without is l with one arc less.
func without(l impl.Level, place int) impl.Level {
	l = cloneLevel(l)
	l.Arcs = slices.Delete(l.Arcs, place, place+1)
	return l
}

// overlaid are lists of unlike nodes of g, in no order: none, one, some and all.
func overlaid(r *numbers, g impl.Graph) [][]int64 {
	var list [][]int64
	for _, count := range []int{0, 1, 1 + r.below(int(g.N)), int(g.N) / 2, int(g.N)} {
		list = append(list, someNodes(r, g, count))
	}
	return list
}

func TestOverlaysAsWritten(t *testing.T) {
	// From 0 to 3 it is 6 by 1 and 6 by 2.
	tied := withArcs(5, arc(0, 1, 2), arc(0, 2, 3), arc(1, 3, 4), arc(2, 3, 3), arc(3, 4, 1))
	for i, c := range []struct {
		g     impl.Graph
		nodes []int64
		want  impl.Level
	}{
		{tied, nil, impl.Level{}},
		{tied, []int64{}, impl.Level{}},
		{tied, []int64{2}, impl.Level{Nodes: []int64{2}}},
		{tied, []int64{3, 0}, impl.Level{Nodes: []int64{0, 3}, Arcs: []impl.Arc{arc(0, 3, 6)}}},
		{tied, []int64{0, 3}, impl.Level{Nodes: []int64{0, 3}, Arcs: []impl.Arc{arc(0, 3, 6)}}},
		{tied, []int64{1, 2}, impl.Level{Nodes: []int64{1, 2}}},
		// A third one is on one of two shortest paths, then on the other one, then on each of both one.
		{tied, []int64{3, 1, 0}, impl.Level{Nodes: []int64{0, 1, 3}, Arcs: []impl.Arc{arc(0, 1, 2), arc(1, 3, 4)}}},
		{tied, []int64{2, 3, 0}, impl.Level{Nodes: []int64{0, 2, 3}, Arcs: []impl.Arc{arc(0, 2, 3), arc(2, 3, 3)}}},
		{tied, []int64{4, 3, 2, 1, 0}, impl.Level{Nodes: []int64{0, 1, 2, 3, 4}, Arcs: tied.Arcs}},
		{tied, []int64{0, 4, 1}, impl.Level{Nodes: []int64{0, 1, 4}, Arcs: []impl.Arc{arc(0, 1, 2), arc(1, 4, 5)}}},
		// The arc is as long as the way by the third one, then shorter, then longer.
		{withArcs(3, arc(0, 1, 4), arc(0, 2, 9), arc(1, 2, 5)), []int64{0, 1, 2}, impl.Level{Nodes: []int64{0, 1, 2}, Arcs: []impl.Arc{arc(0, 1, 4), arc(1, 2, 5)}}},
		{withArcs(3, arc(0, 1, 4), arc(0, 2, 8), arc(1, 2, 5)), []int64{0, 1, 2}, impl.Level{Nodes: []int64{0, 1, 2}, Arcs: []impl.Arc{arc(0, 1, 4), arc(0, 2, 8), arc(1, 2, 5)}}},
		{withArcs(3, arc(0, 1, 4), arc(0, 2, 10), arc(1, 2, 5)), []int64{0, 1, 2}, impl.Level{Nodes: []int64{0, 1, 2}, Arcs: []impl.Arc{arc(0, 1, 4), arc(1, 2, 5)}}},
		// A node on a shortest path that is none of these does not count.
		{withArcs(3, arc(0, 1, 4), arc(0, 2, 9), arc(1, 2, 5)), []int64{2, 0}, impl.Level{Nodes: []int64{0, 2}, Arcs: []impl.Arc{arc(0, 2, 9)}}},
		{withArcs(2, arc(0, 1, 3), arc(1, 0, 5)), []int64{1, 0}, impl.Level{Nodes: []int64{0, 1}, Arcs: []impl.Arc{arc(0, 1, 3), arc(1, 0, 5)}}},
		{impl.Graph{N: 1}, []int64{0}, impl.Level{Nodes: []int64{0}}},
		{impl.Graph{N: impl.MaxNodes}, allNodes(impl.MaxNodes), impl.Level{Nodes: allNodes(impl.MaxNodes)}},
		{chain(impl.MaxNodes, impl.MaxW), allNodes(impl.MaxNodes), impl.Level{Nodes: allNodes(impl.MaxNodes), Arcs: chain(impl.MaxNodes, impl.MaxW).Arcs}},
		{chain(impl.MaxNodes, impl.MaxW), []int64{23, 0}, impl.Level{Nodes: []int64{0, 23}, Arcs: []impl.Arc{arc(0, 23, 23000)}}},
	} {
		if l, ok := impl.OverlayOf(c.g, c.nodes); !ok || !sameLevel(l, c.want) {
			t.Errorf("%d: %v %v", i, l, ok)
		}
		if !impl.OverlayOk(c.g, c.want) {
			t.Errorf("%d: not right", i)
		}
	}
}

func TestOverlaysOfAllGraphs(t *testing.T) {
	r := &numbers{state: 15}
	for _, g := range append(someGraphs(), tiedGraphs()...) {
		all := allDistances(g)
		for _, nodes := range overlaid(r, g) {
			l, ok := impl.OverlayOf(g, nodes)
			if want := levelByHand(all, nodes); !ok || !sameLevel(l, want) {
				t.Fatalf("%v %v: %v %v, not %v", g, nodes, l, ok, want)
			}
			if !impl.OverlayOk(g, l) {
				t.Fatalf("%v %v: not right", g, nodes)
			}
		}
	}
}

func TestInAnOverlayItsNodesAreAsFarApartAsInTheGraph(t *testing.T) {
	r := &numbers{state: 16}
	for _, g := range append(someGraphs(), tiedGraphs()...) {
		all := allDistances(g)
		for _, nodes := range overlaid(r, g) {
			l, _ := impl.OverlayOf(g, nodes)
			for u := range g.N {
				for v := range g.N {
					want := int64(-1)
					if slices.Contains(nodes, u) && slices.Contains(nodes, v) {
						want = all[u][v]
					}
					if d := impl.OverlayDist(l, u, v); d != want {
						t.Fatalf("%v %v: %d to %d is %d", g, l, u, v, d)
					}
				}
			}
		}
	}
}

func TestNoArcIsThereWithoutNeed(t *testing.T) {
	r := &numbers{state: 17}
	for _, g := range append(someGraphs(), tiedGraphs()...) {
		l, _ := impl.OverlayOf(g, someNodes(r, g, 1+r.below(int(g.N))))
		for place, a := range l.Arcs {
			if d := impl.OverlayDist(without(l, place), a.From, a.To); d >= 0 && d <= a.W {
				t.Fatalf("%v %v: without %v it is %d", g, l, a, d)
			}
		}
	}
}

// noOverlay holds that l is not right for g, and that nothing is told by it.
func noOverlay(t *testing.T, g impl.Graph, l impl.Level) {
	t.Helper()
	if impl.OverlayOk(g, l) {
		t.Errorf("%v: %v is right", g, l)
	}
	for _, p := range [][2]int64{{0, 0}, {0, 1}, {g.N - 1, 0}} {
		if d := impl.QueryOverlay(g, l, p[0], p[1]); d != -1 {
			t.Errorf("%v %v: %v is %d", g, l, p, d)
		}
	}
}

func TestOverlayRefusals(t *testing.T) {
	refused := func(name string, g impl.Graph, nodes []int64) {
		t.Helper()
		if l, ok := impl.OverlayOf(g, nodes); ok || !zeroLevel(l) {
			t.Errorf("%s %v: %v %v", name, nodes, l, ok)
		}
		if l, ok := impl.LevelsOf(g, rows(nodes)); ok || len(l) != 0 {
			t.Errorf("%s %v: %v %v", name, nodes, l, ok)
		}
		noOverlay(t, g, impl.Level{Nodes: nodes})
	}
	for _, g := range []impl.Graph{{N: 1}, {N: 4}, chain(5, 1), firstArcs(12, 132), firstArcs(impl.MaxNodes, impl.MaxArcs)} {
		for _, nodes := range unfitNodes(g) {
			refused("unfit", g, nodes)
		}
		refused("one too many", g, allNodes(g.N+1))
		refused("one twice", g, append(allNodes(g.N), g.N-1))
	}
	for _, x := range wrongGraphs() {
		for n := range int64(4) {
			refused(x.name, x.g, allNodes(n))
		}
		if l, ok := impl.LevelsOf(x.g, nil); ok || len(l) != 0 {
			t.Errorf("%s: %v %v", x.name, l, ok)
		}
	}
}

func TestOverlaysWithOneThingChanged(t *testing.T) {
	g := withArcs(5, arc(0, 1, 2), arc(0, 2, 5), arc(1, 2, 2), arc(1, 3, 6), arc(2, 3, 1), arc(3, 0, 4))
	l, ok := impl.OverlayOf(g, []int64{3, 0, 1})
	if !ok || len(l.Arcs) != 3 || !impl.OverlayOk(g, l) {
		t.Fatal(l, ok)
	}
	other := func(change func(l *impl.Level)) {
		t.Helper()
		changed := cloneLevel(l)
		change(&changed)
		noOverlay(t, g, changed)
	}
	for place, a := range l.Arcs {
		for _, x := range append([]int64{-1, 1, far}, extremes...) {
			other(func(l *impl.Level) { l.Arcs[place].From += x })
			other(func(l *impl.Level) { l.Arcs[place].To += x })
			other(func(l *impl.Level) { l.Arcs[place].W += x })
		}
		noOverlay(t, g, without(l, place))
		for at := range len(l.Arcs) + 1 {
			other(func(l *impl.Level) { l.Arcs = slices.Insert(l.Arcs, at, a) })
		}
	}
	other(func(l *impl.Level) { slices.Reverse(l.Arcs) })
	other(func(l *impl.Level) { l.Arcs[0], l.Arcs[1] = l.Arcs[1], l.Arcs[0] })
	other(func(l *impl.Level) { l.Arcs = nil })
	// The way is right, but by 1 there is no need for it.
	other(func(l *impl.Level) { l.Arcs = slices.Insert(l.Arcs, 1, arc(0, 3, 5)) })
	for place := range l.Nodes {
		other(func(l *impl.Level) { l.Nodes = slices.Delete(l.Nodes, place, place+1) })
		other(func(l *impl.Level) { l.Nodes = slices.Insert(l.Nodes, place, l.Nodes[place]) })
		for _, x := range extremes {
			other(func(l *impl.Level) { l.Nodes[place] = x })
		}
	}
	other(func(l *impl.Level) { l.Nodes = []int64{0, 1, 2, 3} })
	other(func(l *impl.Level) { l.Nodes = []int64{3, 0, 1} })
	other(func(l *impl.Level) { l.Nodes = []int64{0, 3, 1} })
	other(func(l *impl.Level) { l.Nodes = nil })
	// There is no way by 4, so that a level with it and without any other arc is right as well.
	if more := (impl.Level{Nodes: []int64{0, 1, 3, 4}, Arcs: l.Arcs}); !impl.OverlayOk(g, more) {
		t.Errorf("%v is not right", more)
	}
	heavier, _ := impl.Weighed(g, 2, 3, 2)
	noOverlay(t, heavier, l)
	noOverlay(t, withArcs(3, arc(0, 1, 2)), l)
	for _, x := range wrongGraphs() {
		noOverlay(t, x.g, l)
	}
}

// waysByHand are how far it is from u to each node by these arcs.
func waysByHand(arcs []impl.Arc, u int64) []int64 {
	dist := slices.Repeat([]int64{-1}, impl.MaxNodes)
	dist[u] = 0
	for range impl.MaxNodes {
		for _, a := range arcs {
			if dist[a.From] >= 0 && (dist[a.To] < 0 || dist[a.From]+a.W < dist[a.To]) {
				dist[a.To] = dist[a.From] + a.W
			}
		}
	}
	return dist
}

// The arcs of a level are as they are: in no order, some of the same ends, some without need.
func TestOverlayDistByAnyArcs(t *testing.T) {
	r := &numbers{state: 18}
	for range 150 {
		nodes := someNodes(r, impl.Graph{N: impl.MaxNodes}, 1+r.below(impl.MaxNodes))
		slices.Sort(nodes)
		l := impl.Level{Nodes: nodes}
		for range r.below(3 * len(nodes)) {
			l.Arcs = append(l.Arcs, arc(nodes[r.below(len(nodes))], nodes[r.below(len(nodes))], int64(1+r.below(1+r.below(far)))))
		}
		for _, u := range nodes {
			dist := waysByHand(l.Arcs, u)
			for v := range int64(impl.MaxNodes) {
				if d := impl.OverlayDist(l, u, v); d != dist[v] {
					t.Fatalf("%v: %d to %d is %d, not %d", l, u, v, d, dist[v])
				}
			}
		}
	}
}

func TestOverlayDistAsWritten(t *testing.T) {
	l := impl.Level{Nodes: []int64{2, 5, 9, 23}, Arcs: []impl.Arc{arc(9, 5, 4), arc(2, 9, far), arc(2, 9, far-1), arc(5, 2, 1)}}
	for i, c := range []struct {
		l       impl.Level
		u, v, d int64
	}{
		{l, 2, 2, 0}, {l, 23, 23, 0},
		{l, 2, 9, far - 1}, {l, 2, 5, far + 3}, {l, 9, 2, 5},
		{l, 2, 23, -1}, {l, 23, 2, -1},
		{l, 2, 3, -1}, {l, 3, 2, -1}, {l, 3, 3, -1}, {l, 0, 0, -1},
		{impl.Level{}, 0, 0, -1},
		{impl.Level{Nodes: []int64{0}}, 0, 0, 0},
		{impl.Level{Nodes: []int64{23}}, 23, 23, 0},
		{impl.Level{Nodes: []int64{0, 1}}, 0, 1, -1},
		{impl.Level{Nodes: []int64{0, 1}, Arcs: []impl.Arc{arc(0, 1, far)}}, 0, 1, far},
		{impl.Level{Nodes: []int64{0, 1}, Arcs: []impl.Arc{arc(0, 1, far)}}, 1, 0, -1},
		{impl.Level{Nodes: []int64{0, 1, 2}, Arcs: []impl.Arc{arc(0, 1, far), arc(1, 2, far)}}, 0, 2, 2 * far},
		// One that leads from a node to itself is between nodes of the level, and makes nothing nearer.
		{impl.Level{Nodes: []int64{0, 1}, Arcs: []impl.Arc{arc(0, 0, 1), arc(0, 1, 5), arc(1, 1, 2)}}, 0, 1, 5},
		{impl.Level{Nodes: []int64{0, 1}, Arcs: []impl.Arc{arc(0, 0, 1), arc(0, 1, 5), arc(1, 1, 2)}}, 1, 1, 0},
	} {
		if d := impl.OverlayDist(c.l, c.u, c.v); d != c.d {
			t.Errorf("%d: %d", i, d)
		}
	}
	for _, x := range append([]int64{-1, 0, 3, 22, 24}, extremes...) {
		for _, p := range [][2]int64{{x, 2}, {2, x}, {x, x}} {
			if d := impl.OverlayDist(l, p[0], p[1]); d != -1 {
				t.Errorf("%v: %d", p, d)
			}
		}
	}
}

// ringOf is a level of these nodes with an arc of w from each to the next one.
func ringOf(w int64, nodes ...int64) impl.Level {
	l := impl.Level{Nodes: nodes}
	for i, v := range nodes {
		l.Arcs = append(l.Arcs, arc(v, nodes[(i+1)%len(nodes)], w))
	}
	return l
}

func TestOverlayDistRefusals(t *testing.T) {
	right := ringOf(7, 0, 4, 8, 23)
	if d := impl.OverlayDist(right, 4, 0); d != 21 {
		t.Fatal(d)
	}
	refused := func(name string, l impl.Level) {
		t.Helper()
		for _, p := range [][2]int64{{4, 0}, {4, 4}, {0, 8}} {
			if d := impl.OverlayDist(l, p[0], p[1]); d != -1 {
				t.Errorf("%s: %v: %v is %d", name, l, p, d)
			}
		}
	}
	for _, nodes := range [][]int64{{4, 0, 8, 23}, {0, 4, 23, 8}, {0, 4, 8, 23, 1}, {0, 0, 4, 8, 23}, {0, 4, 4, 8, 23}, {0, 4, 8, 23, 23}, {0, 4, 8, 8, 23}} {
		refused("does not rise", impl.Level{Nodes: nodes, Arcs: right.Arcs})
	}
	refused("below 0", impl.Level{Nodes: []int64{-1, 0, 4, 8, 23}, Arcs: right.Arcs})
	refused("no place", impl.Level{Nodes: []int64{0, 4, 8, 23, impl.MaxNodes}, Arcs: right.Arcs})
	refused("too many", impl.Level{Nodes: allNodes(10000), Arcs: right.Arcs})
	for place := range right.Arcs {
		for _, x := range append([]int64{1, 3, 22, -1, impl.MaxNodes}, extremes...) {
			l := cloneLevel(right)
			l.Arcs[place].From = x
			refused("from elsewhere", l)
			l = cloneLevel(right)
			l.Arcs[place].To = x
			refused("to elsewhere", l)
		}
		for _, x := range append([]int64{0, -1, far + 1, 2 * far}, extremes...) {
			l := cloneLevel(right)
			l.Arcs[place].W = x
			refused("weight", l)
		}
		for _, x := range []int64{1, far - 1, far} {
			l := cloneLevel(right)
			l.Arcs[place].W = x
			if d := impl.OverlayDist(l, l.Arcs[place].From, l.Arcs[place].To); d != x {
				t.Errorf("%v: %d", l, d)
			}
		}
	}
	for _, x := range extremes {
		if x < 0 {
			refused("an extreme ahead", impl.Level{Nodes: []int64{x, 0, 4, 8, 23}, Arcs: right.Arcs})
		} else {
			refused("an extreme behind", impl.Level{Nodes: []int64{0, 4, 8, 23, x}, Arcs: right.Arcs})
		}
	}
}

func TestHowManyArcsALevelMayHave(t *testing.T) {
	for _, count := range []int{4, mostLevelArcs - 1, mostLevelArcs, mostLevelArcs + 1, mostLevelArcs + 2, 10000} {
		l := ringOf(7, 0, 4, 8, 23)
		for len(l.Arcs) < count {
			l.Arcs = append(l.Arcs, arc(8, 4, 9))
		}
		l.Arcs[count-1] = arc(0, 8, 1)
		want := int64(1)
		if count > mostLevelArcs {
			want = -1
		}
		if d := impl.OverlayDist(l, 0, 8); d != want {
			t.Errorf("%d: %d", count, d)
		}
	}
	// All nodes there may be, each two with an arc.
	l := impl.Level{Nodes: allNodes(impl.MaxNodes)}
	for u := range int64(impl.MaxNodes) {
		for v := range int64(impl.MaxNodes) {
			if u != v {
				l.Arcs = append(l.Arcs, arc(u, v, 1+(u*v)%far))
			}
		}
	}
	if d := impl.OverlayDist(l, 22, 23); d != 2 {
		t.Error(d)
	}
}

func TestByAnOverlayItIsAsFarAsWithout(t *testing.T) {
	r := &numbers{state: 19}
	for _, g := range append(someGraphs(), tiedGraphs()...) {
		all := allDistances(g)
		for _, nodes := range overlaid(r, g) {
			l, _ := impl.OverlayOf(g, nodes)
			for _, p := range somePairs(g) {
				if d := impl.QueryOverlay(g, l, p[0], p[1]); d != all[p[0]][p[1]] {
					t.Fatalf("%v %v: %v is %d", g, l, p, d)
				}
			}
		}
	}
}

// From 0 to 5 it may be shortest by one node of the level, by two, by three, or by none.
func TestOnAndOffAnOverlay(t *testing.T) {
	g := withArcs(6, arc(0, 1, 2), arc(0, 5, 100), arc(1, 2, 2), arc(2, 3, 2), arc(3, 4, 2), arc(4, 5, 2), arc(5, 0, 1))
	for i, nodes := range [][]int64{nil, {0}, {5}, {2}, {3, 2}, {1, 4}, {4, 2, 1}, {0, 5}, {0, 3}, {1, 5}, {0, 3, 5}, {0, 1, 2, 3, 4, 5}} {
		l, ok := impl.OverlayOf(g, nodes)
		for _, c := range []struct{ s, t, want int64 }{{0, 5, 10}, {5, 0, 1}, {1, 4, 6}, {4, 1, 5}, {3, 3, 0}, {0, 0, 0}} {
			if d := impl.QueryOverlay(g, l, c.s, c.t); !ok || d != c.want {
				t.Errorf("%d: %d to %d is %d", i, c.s, c.t, d)
			}
		}
		lighter, _ := impl.Weighed(g, 0, 5, 9)
		l, _ = impl.OverlayOf(lighter, nodes)
		if d := impl.QueryOverlay(lighter, l, 0, 5); d != 9 {
			t.Errorf("%d: by the arc alone it is %d", i, d)
		}
	}
}

func TestQueryOverlayOfWhatIsNoNode(t *testing.T) {
	for _, g := range []impl.Graph{{N: 1}, chain(5, 1), firstArcs(12, 132), {N: impl.MaxNodes}} {
		for _, nodes := range [][]int64{nil, {0}, allNodes(g.N)} {
			l, _ := impl.OverlayOf(g, nodes)
			for _, p := range noneOnTheWay(g) {
				if d := impl.QueryOverlay(g, l, p[0], p[1]); d != -1 {
					t.Errorf("%v %v: %v is %d", g, l, p, d)
				}
			}
		}
	}
}

func TestLevelsAsWritten(t *testing.T) {
	g := withArcs(5, arc(0, 1, 2), arc(0, 2, 5), arc(1, 2, 2), arc(1, 3, 6), arc(2, 3, 1), arc(3, 0, 4))
	all := []int64{3, 1, 4, 0, 2}
	for i, c := range []struct {
		sets [][]int64
		want bool
	}{
		{nil, true},
		{[][]int64{{}}, true},
		{[][]int64{{0}}, true},
		{[][]int64{{0}, {}}, true},
		{[][]int64{{}, {}}, true},
		{[][]int64{{}, {0}}, false},
		{[][]int64{{0}, {1}}, false},
		{[][]int64{all, all, all, all, all}, true},
		{[][]int64{{0, 1, 3}, {3, 1, 0}}, true},
		{[][]int64{all, {0, 1, 3}, {3, 0}, {3}, nil}, true},
		{[][]int64{all, {0, 1, 3}, {3, 0}, {1}}, false},    // 1 is in one farther ahead alone
		{[][]int64{all, {0, 1, 3}, {3, 0, 1, 2}}, false},   // one has not all that the one behind has
		{[][]int64{{0, 1, 3}, all}, false},                 // ever more
		{[][]int64{all, {}, {}, {}, {}}, true},             // five
		{[][]int64{{}, {}, {}, {}, {}, {}}, false},         // six
		{[][]int64{all, all, all, all, all, all}, false},   // six
		{[][]int64{all, all, all, all, {4, 4}}, false},     // alike in the last one
		{[][]int64{all, all, all, all, {5}}, false},        // no node
		{[][]int64{{0, 0}, {0}}, false},                    // alike in the first one
		{[][]int64{{0, -1}, {0}}, false},                   // no node
		{[][]int64{{5}, {5}}, false},                       // no node of g, though the one ahead has it
		{[][]int64{all, {0, 1, 3}, {0, 3, 0}}, false},      // both are in the one ahead
		{[][]int64{all, {0, 1, 3}, {0, 3}, {3, 0}}, true},  // alike but for the order
		{[][]int64{{0, 1, 3}, {0, 1, 3, 1 << 62}}, false},  // an extreme
		{[][]int64{{0, 1, 3}, {-1 << 63, 0, 1, 3}}, false}, // an extreme
	} {
		l, ok := impl.LevelsOf(g, rows(c.sets...))
		if ok != c.want || !ok && len(l) != 0 || ok && len(l) != len(c.sets) {
			t.Errorf("%d: %v %v", i, l, ok)
			continue
		}
		for j, level := range l {
			if want, _ := impl.OverlayOf(g, c.sets[j]); !sameLevel(level, want) {
				t.Errorf("%d: %d is %v", i, j, level)
			}
		}
	}
}

func TestHowManyLevelsThereMayBe(t *testing.T) {
	g := chain(3, 1)
	for count := range 3 * mostLevels {
		l, ok := impl.LevelsOf(g, slices.Repeat(rows([]int64{2, 0}), count))
		want := count
		if count > mostLevels {
			want = 0
		}
		if ok != (count <= mostLevels) || len(l) != want {
			t.Errorf("%d: %v %v", count, l, ok)
		}
	}
}

func TestEachLevelKeepsWhatTheOneBelowHas(t *testing.T) {
	r := &numbers{state: 20}
	for _, g := range append(someGraphs(), tiedGraphs()...) {
		all := allDistances(g)
		var sets []impl.Row
		set := someNodes(r, g, int(g.N))
		for range 1 + r.below(mostLevels) {
			sets = append(sets, impl.Row{D: set})
			set = slices.Clone(set[r.below(len(set)+1)/2:])
			slices.Reverse(set)
		}
		levels, ok := impl.LevelsOf(g, sets)
		if !ok || len(levels) != len(sets) {
			t.Fatalf("%v %v: %v %v", g, sets, levels, ok)
		}
		for i, l := range levels {
			if !sameLevel(l, levelByHand(all, sets[i].D)) {
				t.Fatalf("%v %v: %d is %v", g, sets, i, l)
			}
			for _, u := range l.Nodes {
				for _, v := range l.Nodes {
					if d := impl.OverlayDist(l, u, v); d != all[u][v] || i > 0 && d != impl.OverlayDist(levels[i-1], u, v) {
						t.Fatalf("%v %v: on %d it is %d from %d to %d", g, sets, i, d, u, v)
					}
				}
			}
		}
	}
}

// listsOf has all lists of these levels, their arcs as numbers.
func listsOf(levels []impl.Level) [][]int64 {
	var list [][]int64
	for _, l := range levels {
		var ends []int64
		for _, a := range l.Arcs {
			ends = append(ends, a.From, a.To, a.W)
		}
		list = append(list, slices.Clone(l.Nodes), ends)
	}
	return list
}

func TestLevelAnswersAreNewMemory(t *testing.T) {
	arcs, arcsUnchanged := guarded(t, chain(5, 4).Arcs, arc(4, 0, 1))
	g := impl.Graph{N: 5, Arcs: arcs}
	all, allUnchanged := guarded(t, []int64{0, 1, 2, 3, 4}, 0)
	some, someUnchanged := guarded(t, []int64{4, 0, 2}, 1)
	sets := rows(all, all, some, some, all[1:1])
	was := cloneRows(sets)
	for range 2 {
		levels, ok := impl.LevelsOf(g, sets[:4])
		one, is := impl.OverlayOf(g, all)
		if !ok || !is || len(levels) != 4 || !sameLevel(one, levels[0]) || !sameLevel(one, impl.Level{Nodes: all, Arcs: arcs}) {
			t.Fatal(levels, one)
		}
		levels = append(levels, one)
		right := listsOf(levels)
		for i := range levels {
			spoil(levels[i].Nodes, -9)
			right[2*i] = slices.Repeat([]int64{-9}, len(right[2*i]))
			if now := listsOf(levels); !slices.EqualFunc(now, right, slices.Equal) {
				t.Fatalf("the Nodes of %d are shared: %v", i, now)
			}
			spoil(levels[i].Arcs, arc(-9, -9, -9))
			right[2*i+1] = slices.Repeat([]int64{-9}, len(right[2*i+1]))
			if now := listsOf(levels); !slices.EqualFunc(now, right, slices.Equal) {
				t.Fatalf("the Arcs of %d are shared: %v", i, now)
			}
		}
		arcsUnchanged()
		allUnchanged()
		someUnchanged()
	}
	if !sameRows(sets, was) || !slices.Equal(sets[4].D, was[4].D) {
		t.Error("the sets were changed")
	}
}

func TestNothingIsWrittenIntoALevel(t *testing.T) {
	arcs, arcsUnchanged := guarded(t, chain(5, 4).Arcs, arc(4, 0, 1))
	g := impl.Graph{N: 5, Arcs: arcs}
	right, _ := impl.OverlayOf(g, []int64{0, 2, 4})
	nodes, nodesUnchanged := guarded(t, right.Nodes, 9)
	between, betweenUnchanged := guarded(t, right.Arcs, arc(0, 4, 1))
	l := impl.Level{Nodes: nodes, Arcs: between}
	// Not in order, so that a search has to put them so.
	mixed, mixedUnchanged := guarded(t, []impl.Arc{arc(4, 2, 3), arc(0, 4, 2), arc(2, 0, 1), arc(0, 2, 9)}, arc(0, 2, 1))
	for range 2 {
		if !impl.OverlayOk(g, l) || impl.OverlayDist(l, 0, 4) != 16 || impl.QueryOverlay(g, l, 1, 3) != 8 || impl.QueryOverlay(g, l, 3, 1) != -1 {
			t.Error(l)
		}
		if d := impl.OverlayDist(impl.Level{Nodes: nodes, Arcs: mixed}, 0, 2); d != 5 {
			t.Error(d)
		}
	}
	for _, unchanged := range []func(){arcsUnchanged, nodesUnchanged, betweenUnchanged, mixedUnchanged} {
		unchanged()
	}
}
