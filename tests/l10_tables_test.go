package tests

import (
	"math"
	"slices"
	"testing"

	"loop.example/g00546/impl"
)

const mostOfAKind = 60

// matrixByHand has the rows of from when all are so far apart.
func matrixByHand(all [][]int64, from []int64, to []int64) []impl.Row {
	var list []impl.Row
	for _, u := range from {
		var d []int64
		for _, v := range to {
			d = append(d, all[u][v])
		}
		list = append(list, impl.Row{D: d})
	}
	return list
}

// anyNodes are so many nodes of g, in no order, some of them more than once.
func anyNodes(r *numbers, g impl.Graph, count int) []int64 {
	var list []int64
	for range count {
		list = append(list, int64(r.below(int(g.N))))
	}
	return list
}

func TestMatricesAsWritten(t *testing.T) {
	g := withArcs(4, arc(0, 1, 2), arc(1, 2, 3), arc(2, 0, 4))
	for i, c := range []struct {
		g        impl.Graph
		from, to []int64
		want     [][]int64
	}{
		{g, []int64{0, 1, 2, 3}, []int64{0, 1, 2, 3}, [][]int64{{0, 2, 5, -1}, {7, 0, 3, -1}, {4, 6, 0, -1}, {-1, -1, -1, 0}}},
		{g, []int64{2}, []int64{1}, [][]int64{{6}}},
		{g, []int64{2, 0}, []int64{3, 1}, [][]int64{{-1, 6}, {-1, 2}}},
		{g, []int64{1}, []int64{2, 0, 1}, [][]int64{{3, 7, 0}}},
		{g, []int64{1, 2, 0}, []int64{1}, [][]int64{{0}, {6}, {2}}},
		// No row, rows of nothing, and neither.
		{g, nil, []int64{0, 1, 2}, nil},
		{g, []int64{}, []int64{0}, nil},
		{g, []int64{0, 1}, nil, [][]int64{{}, {}}},
		{g, []int64{2}, []int64{}, [][]int64{{}}},
		{g, nil, nil, nil},
		// The same node twice.
		{g, []int64{2, 1, 2}, []int64{0}, [][]int64{{4}, {7}, {4}}},
		{g, []int64{2}, []int64{0, 1, 0, 0}, [][]int64{{4, 6, 4, 4}}},
		{g, []int64{3, 3}, []int64{3, 3}, [][]int64{{0, 0}, {0, 0}}},
		{impl.Graph{N: 1}, []int64{0}, []int64{0}, [][]int64{{0}}},
		{impl.Graph{N: 1}, []int64{0, 0}, nil, [][]int64{{}, {}}},
		{chain(impl.MaxNodes, impl.MaxW), []int64{0, 23}, []int64{23, 0}, [][]int64{{23000, 0}, {0, -1}}},
	} {
		if m := impl.Matrix(c.g, c.from, c.to); !sameRows(m, rows(c.want...)) {
			t.Errorf("%d: %v", i, m)
		}
	}
}

func TestAMatrixHasAllDistances(t *testing.T) {
	r := &numbers{state: 23}
	for _, g := range append(someGraphs(), tiedGraphs()...) {
		all := allDistances(g)
		nodes := allNodes(g.N)
		if m := impl.Matrix(g, nodes, nodes); !sameRows(m, rows(all...)) || !sameRows(m, impl.AllPairs(g)) {
			t.Fatalf("%v: %v", g, m)
		}
		for range 4 {
			from, to := anyNodes(r, g, r.below(mostOfAKind+1)), anyNodes(r, g, r.below(mostOfAKind+1))
			m := impl.Matrix(g, from, to)
			if !sameRows(m, matrixByHand(all, from, to)) {
				t.Fatalf("%v %v %v: %v", g, from, to, m)
			}
			if len(from) > 0 && len(to) > 0 && m[len(from)-1].D[0] != impl.DistOf(g, from[len(from)-1], to[0]) {
				t.Fatalf("%v %v %v: %v", g, from, to, m)
			}
		}
	}
}

func TestHowManyAMatrixMayHave(t *testing.T) {
	r := &numbers{state: 24}
	for _, g := range []impl.Graph{{N: 1}, chain(3, 2), firstArcs(impl.MaxNodes, impl.MaxArcs)} {
		all := allDistances(g)
		for _, rowCount := range []int{0, 1, mostOfAKind - 1, mostOfAKind, mostOfAKind + 1, 2 * mostOfAKind, 10000} {
			for _, count := range []int{0, 1, mostOfAKind - 1, mostOfAKind, mostOfAKind + 1, 2 * mostOfAKind, 10000} {
				from, to := anyNodes(r, g, rowCount), anyNodes(r, g, count)
				var want []impl.Row
				if rowCount <= mostOfAKind && count <= mostOfAKind {
					want = matrixByHand(all, from, to)
				}
				if m := impl.Matrix(g, from, to); !sameRows(m, want) {
					t.Errorf("%d and %d: %d rows", rowCount, count, len(m))
				}
			}
		}
	}
}

func TestMatrixRefusals(t *testing.T) {
	for _, g := range []impl.Graph{{N: 1}, chain(5, 1), firstArcs(12, 132), firstArcs(impl.MaxNodes, impl.MaxArcs)} {
		for _, x := range noNodes(g) {
			for _, unfit := range [][]int64{{x}, {0, x}, {x, 0}, {0, x, 0}, append(make([]int64, mostOfAKind-1), x), append(make([]int64, mostOfAKind), x)} {
				for _, right := range [][]int64{nil, {0}, {g.N - 1, 0}, make([]int64, mostOfAKind)} {
					if m := impl.Matrix(g, unfit, right); len(m) != 0 {
						t.Errorf("%v from %v to %v: %v", g, unfit, right, m)
					}
					if m := impl.Matrix(g, right, unfit); len(m) != 0 {
						t.Errorf("%v from %v to %v: %v", g, right, unfit, m)
					}
				}
				if m := impl.Matrix(g, unfit, unfit); len(m) != 0 {
					t.Errorf("%v from and to %v: %v", g, unfit, m)
				}
			}
		}
	}
	for _, x := range wrongGraphs() {
		for _, nodes := range [][]int64{nil, {}, {0}, {1, 0}, {0, 1, 2}, {-1}} {
			for _, others := range [][]int64{nodes, {0}, nil} {
				if m := impl.Matrix(x.g, nodes, others); len(m) != 0 {
					t.Errorf("%s from %v to %v: %v", x.name, nodes, others, m)
				}
			}
		}
	}
}

func TestNearestAsWritten(t *testing.T) {
	// 2, 4 and 1 are as far as each other; 6 leads here, 7 is alone.
	g := withArcs(8, arc(0, 1, 5), arc(0, 2, 5), arc(0, 3, 2), arc(0, 5, 9), arc(3, 4, 3), arc(6, 0, 1))
	for i, c := range []struct {
		s      int64
		places []int64
		k      int64
		want   []impl.Item
	}{
		{0, []int64{1, 2, 3, 4, 5}, 5, items(2, 3, 5, 1, 5, 2, 5, 4, 9, 5)},
		{0, []int64{5, 4, 3, 2, 1}, 5, items(2, 3, 5, 1, 5, 2, 5, 4, 9, 5)},
		// None, one, more than one, as many as there are, more.
		{0, []int64{4, 2, 5}, 0, nil},
		{0, []int64{4, 2, 5}, 1, items(5, 2)},
		{0, []int64{4, 2, 5}, 2, items(5, 2, 5, 4)},
		{0, []int64{4, 2, 5}, 3, items(5, 2, 5, 4, 9, 5)},
		{0, []int64{4, 2, 5}, 4, items(5, 2, 5, 4, 9, 5)},
		{0, []int64{4, 2, 5}, math.MaxInt64, items(5, 2, 5, 4, 9, 5)},
		{0, []int64{4, 2, 5}, 1 << 32, items(5, 2, 5, 4, 9, 5)},
		{0, []int64{4, 2, 5}, -1, nil},
		{0, []int64{4, 2, 5}, math.MinInt64, nil},
		// As far as each other, and only some of them are asked for.
		{0, []int64{4, 2, 1}, 1, items(5, 1)},
		{0, []int64{4, 2, 1}, 2, items(5, 1, 5, 2)},
		{0, []int64{4, 1}, 1, items(5, 1)},
		// Places that are not reached.
		{0, []int64{6, 7}, 2, nil},
		{0, []int64{7, 5, 6}, 2, items(9, 5)},
		{0, []int64{7, 5, 6}, 1, items(9, 5)},
		{4, []int64{0, 1, 2, 3, 5, 6, 7}, 9, nil},
		// The node itself is among the places, or is not.
		{0, []int64{3, 0}, 1, items(0, 0)},
		{0, []int64{3, 0}, 2, items(0, 0, 2, 3)},
		{7, []int64{7}, 1, items(0, 7)},
		{7, allNodes(8), 8, items(0, 7)},
		{6, []int64{0, 5}, 2, items(1, 0, 10, 5)},
		{0, nil, 3, nil},
		{0, []int64{}, 0, nil},
	} {
		if l := impl.Nearest(g, c.s, c.places, c.k); !slices.Equal(l, c.want) {
			t.Errorf("%d: %v", i, l)
		}
	}
	if l := impl.Nearest(impl.Graph{N: 1}, 0, []int64{0}, 1); !slices.Equal(l, items(0, 0)) {
		t.Error(l)
	}
	if l := impl.Nearest(chain(impl.MaxNodes, impl.MaxW), 0, []int64{23, 22}, 2); !slices.Equal(l, items(22000, 22, 23000, 23)) {
		t.Error(l)
	}
}

func TestOfTheNearestNoneThatIsLeftOutIsNearer(t *testing.T) {
	r := &numbers{state: 25}
	for _, g := range append(someGraphs(), tiedGraphs()...) {
		all := allDistances(g)
		for _, s := range []int64{0, g.N - 1, int64(r.below(int(g.N)))} {
			places := someNodes(r, g, r.below(int(g.N)+1))
			var reached []impl.Item
			for _, v := range places {
				if all[s][v] >= 0 {
					reached = append(reached, impl.Item{Key: all[s][v], Id: v})
				}
			}
			slices.SortFunc(reached, compareItems)
			for k := range int64(len(places)) + 2 {
				want := reached[:min(int(k), len(reached))]
				if l := impl.Nearest(g, s, places, k); !slices.Equal(l, want) {
					t.Fatalf("%v from %d %v, %d: %v", g, s, places, k, l)
				}
			}
		}
	}
}

func TestNearestRefusals(t *testing.T) {
	for _, g := range []impl.Graph{{N: 1}, chain(5, 1), firstArcs(12, 132), firstArcs(impl.MaxNodes, impl.MaxArcs)} {
		for _, places := range unfitNodes(g) {
			for _, k := range []int64{0, 1, 5, math.MaxInt64} {
				if l := impl.Nearest(g, 0, places, k); len(l) != 0 {
					t.Errorf("%v %v: %v", g, places, l)
				}
			}
		}
		for _, x := range noNodes(g) {
			for _, places := range [][]int64{nil, {0}, allNodes(g.N)} {
				if l := impl.Nearest(g, x, places, 5); len(l) != 0 {
					t.Errorf("%v from %d: %v", g, x, l)
				}
			}
		}
		for _, k := range []int64{-1, -2, -1 << 32, math.MinInt64, math.MinInt64 + 1} {
			if l := impl.Nearest(g, 0, allNodes(g.N), k); len(l) != 0 {
				t.Errorf("%v, %d: %v", g, k, l)
			}
		}
	}
	for _, x := range wrongGraphs() {
		for _, places := range [][]int64{nil, {0}, {1, 0}, {0, 1, 2}} {
			for _, s := range []int64{-1, 0, 1} {
				if l := impl.Nearest(x.g, s, places, 3); len(l) != 0 {
					t.Errorf("%s from %d %v: %v", x.name, s, places, l)
				}
			}
		}
	}
}

func TestSpreadsAsWritten(t *testing.T) {
	for i, c := range []struct {
		g    impl.Graph
		want []int64
	}{
		{impl.Graph{N: 1}, []int64{0}},
		{impl.Graph{N: 3}, []int64{0, 0, 0}},
		{withArcs(2, arc(0, 1, 1000)), []int64{1000, 0}},
		{withArcs(3, arc(0, 1, 2), arc(1, 2, 3), arc(2, 0, 4)), []int64{5, 7, 6}},
		// The farthest is not the last one, nor the one that most arcs lead to.
		{withArcs(4, arc(0, 1, 9), arc(0, 2, 4), arc(0, 3, 7), arc(2, 3, 2)), []int64{9, 0, 2, 0}},
		{withArcs(3, arc(0, 1, 9), arc(0, 2, 1), arc(2, 1, 1)), []int64{2, 0, 1}},
		// Nodes that are not reached do not count, though they lead here.
		{withArcs(4, arc(1, 0, 900), arc(2, 3, 5)), []int64{0, 900, 5, 0}},
	} {
		for v, want := range c.want {
			if n := impl.Spread(c.g, int64(v)); n != want {
				t.Errorf("%d: of %d %d", i, v, n)
			}
		}
	}
	if n := impl.Spread(chain(impl.MaxNodes, impl.MaxW), 0); n != 23000 {
		t.Error(n)
	}
}

func TestCentersAsWritten(t *testing.T) {
	for i, c := range []struct {
		g    impl.Graph
		want int64
	}{
		{impl.Graph{N: 1}, 0},
		{impl.Graph{N: impl.MaxNodes}, 0},
		{chain(5, 1), 0},
		{impl.Reversed(chain(5, 1)), 4},
		// From 1 and from 2 all are reached: with the same spread, then the one nearer, then the other one.
		{withArcs(3, arc(1, 2, 4), arc(2, 0, 4), arc(2, 1, 4)), 2},
		{withArcs(3, arc(1, 0, 4), arc(1, 2, 4), arc(2, 0, 4), arc(2, 1, 4)), 1},
		{withArcs(3, arc(1, 0, 5), arc(1, 2, 4), arc(2, 0, 4), arc(2, 1, 4)), 2},
		{withArcs(3, arc(1, 0, 4), arc(1, 2, 4), arc(2, 0, 5), arc(2, 1, 4)), 1},
		// From more nodes, though they are farther.
		{withArcs(5, arc(0, 1, 1), arc(2, 3, 1000), arc(3, 4, 1000)), 2},
		{withArcs(5, arc(0, 1, 1000), arc(1, 2, 1000), arc(3, 4, 1)), 0},
		// From as many, but not the same ones.
		{withArcs(4, arc(0, 1, 7), arc(2, 3, 6)), 2},
		{withArcs(4, arc(0, 1, 6), arc(2, 3, 6)), 0},
		{withArcs(4, arc(0, 1, 6), arc(2, 3, 7)), 0},
		// The sum of all distances does not count, the greatest does.
		{withArcs(4, arc(0, 1, 1), arc(0, 2, 1), arc(0, 3, 9), arc(1, 0, 8), arc(1, 2, 8), arc(1, 3, 8)), 1},
	} {
		if v := impl.Center(c.g); v != c.want {
			t.Errorf("%d: %d", i, v)
		}
	}
}

func TestFromNoNodeMoreIsReachedThanFromTheCenter(t *testing.T) {
	others := 0
	for _, g := range append(someGraphs(), tiedGraphs()...) {
		all := allDistances(g)
		want, most, least := int64(-1), -1, int64(-1)
		for v := range g.N {
			count := len(slices.DeleteFunc(slices.Clone(all[v]), func(d int64) bool { return d < 0 }))
			spread := slices.Max(all[v])
			if n := impl.Spread(g, v); n != spread {
				t.Fatalf("%v: from %d %d", g, v, n)
			}
			if count > most || count == most && spread < least {
				want, most, least = v, count, spread
			}
		}
		c := impl.Center(g)
		if c != want {
			t.Fatalf("%v: %d, not %d", g, c, want)
		}
		if c > 0 {
			others++
		}
	}
	if others == 0 {
		t.Error("node 0 is the center of all graphs")
	}
}

func TestTablesOfWrongGraphs(t *testing.T) {
	for _, x := range wrongGraphs() {
		if v := impl.Center(x.g); v != -1 {
			t.Errorf("%s: %d", x.name, v)
		}
		for _, v := range []int64{-1, 0, 1, 2} {
			if n := impl.Spread(x.g, v); n != -1 {
				t.Errorf("%s: of %d %d", x.name, v, n)
			}
		}
	}
	for _, g := range []impl.Graph{{N: 1}, chain(5, 1), firstArcs(12, 132), firstArcs(impl.MaxNodes, impl.MaxArcs)} {
		for _, x := range noNodes(g) {
			if n := impl.Spread(g, x); n != -1 {
				t.Errorf("%v: of %d %d", g, x, n)
			}
		}
	}
}

func TestTableAnswersAreNewMemory(t *testing.T) {
	arcs, arcsUnchanged := guarded(t, chain(5, 4).Arcs, arc(-7, -7, -7))
	g := impl.Graph{N: 5, Arcs: arcs}
	from, fromUnchanged := guarded(t, []int64{3, 0, 3, 1, 0}, -7)
	to, toUnchanged := guarded(t, []int64{4, 4, 0, 2}, -7)
	places, placesUnchanged := guarded(t, []int64{4, 1, 3}, -7)
	none, noneUnchanged := guarded(t, []int64{4, 1, 5}, 1)
	holdTwice(t, func() [][]int64 {
		var list [][]int64
		for _, m := range [][]impl.Row{impl.Matrix(g, from, to), impl.Matrix(g, to, from), impl.Matrix(g, from, nil), impl.Matrix(g, to, to)} {
			for _, row := range m {
				list = append(list, row.D)
			}
		}
		return append(list, []int64{impl.Spread(g, 0), impl.Center(g), int64(len(impl.Matrix(g, none, to))), int64(len(impl.Matrix(g, to, none)))})
	})
	m := impl.Matrix(g, from, to)
	spoil(m, impl.Row{})
	for range 2 {
		l := impl.Nearest(g, 0, places, 2)
		if !slices.Equal(l, items(4, 1, 12, 3)) || len(impl.Nearest(g, 0, none, 2)) != 0 {
			t.Error(l)
		}
		spoil(l, impl.Item{Key: -9, Id: -9})
	}
	for _, unchanged := range []func(){arcsUnchanged, fromUnchanged, toUnchanged, placesUnchanged, noneUnchanged} {
		unchanged()
	}
}
