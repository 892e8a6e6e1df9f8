package tests

import (
	"slices"
	"testing"

	"loop.example/g00546/impl"
)

// A change is of one weight: u, v and w as Weighed takes them.
type change struct {
	u, v, w int64
}

// someChanges are such as Weighed makes: each arc gone, heavier, lighter and as
// it is, and arcs between any two nodes, there or not.
func someChanges(r *numbers, g impl.Graph) []change {
	var list []change
	for i, a := range g.Arcs {
		if len(g.Arcs) > 20 && i%(len(g.Arcs)/10) > 0 {
			continue
		}
		list = append(list, change{a.From, a.To, 0}, change{a.From, a.To, a.W},
			change{a.From, a.To, 1 + int64(r.below(impl.MaxW))}, change{a.From, a.To, min(a.W+1, impl.MaxW)}, change{a.From, a.To, max(a.W-1, 1)}, change{a.From, a.To, impl.MaxW})
	}
	for range 8 {
		list = append(list, change{int64(r.below(int(g.N))), int64(r.below(int(g.N))), int64(r.below(impl.MaxW))})
	}
	return slices.DeleteFunc(list, func(c change) bool {
		return c.u == c.v || len(g.Arcs) == impl.MaxArcs && impl.WeightOf(g, c.u, c.v) == 0
	})
}

func TestAllPairsAsWritten(t *testing.T) {
	long := make([][]int64, impl.MaxNodes)
	for u := range long {
		for v := range long {
			d := int64(-1)
			if u <= v {
				d = int64(v-u) * impl.MaxW
			}
			long[u] = append(long[u], d)
		}
	}
	for i, c := range []struct {
		g    impl.Graph
		want [][]int64
	}{
		{impl.Graph{N: 1}, [][]int64{{0}}},
		{impl.Graph{N: 2}, [][]int64{{0, -1}, {-1, 0}}},
		{withArcs(2, arc(1, 0, 1000)), [][]int64{{0, -1}, {1000, 0}}},
		{withArcs(3, arc(0, 1, 2), arc(1, 2, 3), arc(2, 0, 4)), [][]int64{{0, 2, 5}, {7, 0, 3}, {4, 6, 0}}},
		{withArcs(3, arc(0, 1, 2), arc(0, 2, 6), arc(1, 2, 3)), [][]int64{{0, 2, 5}, {-1, 0, 3}, {-1, -1, 0}}},
		{chain(impl.MaxNodes, impl.MaxW), long},
	} {
		if l := impl.AllPairs(c.g); !sameRows(l, rows(c.want...)) {
			t.Errorf("%d: %v", i, l)
		}
	}
}

func TestAllPairsOfAllGraphs(t *testing.T) {
	for _, g := range append(someGraphs(), tiedGraphs()...) {
		l := impl.AllPairs(g)
		if !sameRows(l, rows(allDistances(g)...)) {
			t.Fatalf("%v: %v", g, l)
		}
		for s, row := range l {
			if !slices.Equal(row.D, impl.DistFrom(g, int64(s))) {
				t.Fatalf("%v: from %d it is %v", g, s, row.D)
			}
		}
	}
}

func TestWhatAChangeTurns(t *testing.T) {
	// From 0 to 3 it is 5 by 1 and 5 by 2; nothing shortest goes from 0 to 3 at once.
	g := withArcs(5, arc(0, 1, 2), arc(0, 2, 1), arc(0, 3, 6), arc(1, 3, 3), arc(2, 3, 4), arc(3, 4, 1))
	for i, c := range []struct {
		g    impl.Graph
		by   change
		want []int64
	}{
		// Put in: nearer, as near, and no nearer than it was; or there was no way.
		{g, change{0, 4, 5}, []int64{0}},
		{g, change{0, 4, 6}, nil},
		{g, change{0, 4, 1000}, nil},
		{g, change{1, 4, 4}, nil},
		{g, change{1, 4, 3}, []int64{0, 1}},
		{g, change{4, 0, 1000}, []int64{1, 2, 3, 4}},
		{g, change{1, 2, 1}, []int64{1}},
		{g, change{2, 1, 1}, []int64{2}},
		{impl.Graph{N: 2}, change{0, 1, 1}, []int64{0}},
		{impl.Graph{N: 2}, change{1, 0, 1000}, []int64{1}},
		// Taken out: the only way, one of two, and one that was not there.
		{g, change{3, 4, 0}, []int64{0, 1, 2, 3}},
		{g, change{1, 3, 0}, []int64{1}},
		{g, change{2, 3, 0}, []int64{2}},
		{g, change{0, 1, 0}, []int64{0}},
		{g, change{0, 3, 0}, nil},
		{g, change{4, 0, 0}, nil},
		{impl.Graph{N: 2}, change{0, 1, 0}, nil},
		// Heavier.
		{g, change{3, 4, 2}, []int64{0, 1, 2, 3}},
		{g, change{1, 3, 4}, []int64{1}},
		{g, change{0, 3, 7}, nil},
		{g, change{0, 3, 1000}, nil},
		// Lighter: on the shortest paths, up to them, and past them.
		{g, change{2, 3, 3}, []int64{0, 2}},
		{g, change{0, 3, 5}, nil},
		{g, change{0, 3, 4}, []int64{0}},
		{withArcs(3, arc(0, 1, 5), arc(1, 2, 5)), change{1, 2, 4}, []int64{0, 1}},
		// As it was.
		{g, change{0, 3, 6}, nil},
		{g, change{3, 4, 1}, nil},
		{g, change{1, 3, 3}, nil},
	} {
		if l := impl.Affected(c.g, c.by.u, c.by.v, c.by.w); !slices.Equal(l, c.want) {
			t.Errorf("%d: %v", i, l)
		}
	}
}

func TestRepairsAsWritten(t *testing.T) {
	g := withArcs(4, arc(0, 1, 2), arc(0, 2, 5), arc(1, 2, 3), arc(2, 0, 1))
	was := [][]int64{{0, 2, 5, -1}, {4, 0, 3, -1}, {1, 3, 0, -1}, {-1, -1, -1, 0}}
	if l := impl.AllPairs(g); !sameRows(l, rows(was...)) {
		t.Fatal(l)
	}
	for i, c := range []struct {
		by   change
		want [][]int64
	}{
		{change{3, 1, 1000}, [][]int64{was[0], was[1], was[2], {1004, 1000, 1003, 0}}},
		{change{1, 3, 7}, [][]int64{{0, 2, 5, 9}, {4, 0, 3, 7}, {1, 3, 0, 10}, was[3]}},
		{change{2, 0, 0}, [][]int64{was[0], {-1, 0, 3, -1}, {-1, -1, 0, -1}, was[3]}},
		{change{1, 2, 0}, [][]int64{was[0], {-1, 0, -1, -1}, was[2], was[3]}},
		{change{0, 1, 9}, [][]int64{{0, 9, 5, -1}, was[1], {1, 10, 0, -1}, was[3]}},
		{change{1, 2, 2}, [][]int64{{0, 2, 4, -1}, {3, 0, 2, -1}, was[2], was[3]}},
		{change{1, 2, 3}, was},
		{change{0, 2, 6}, was},
		{change{0, 2, 0}, was},
		{change{0, 2, 1000}, was},
		{change{3, 0, 0}, was},
	} {
		l, ok := impl.Repaired(g, rows(was...), c.by.u, c.by.v, c.by.w)
		if !ok || !sameRows(l, rows(c.want...)) {
			t.Errorf("%d: %v %v", i, l, ok)
		}
	}
	if l, ok := impl.Repaired(impl.Graph{N: 2}, rows([]int64{0, -1}, []int64{-1, 0}), 0, 1, 1000); !ok || !sameRows(l, rows([]int64{0, 1000}, []int64{-1, 0})) {
		t.Error(l, ok)
	}
}

func TestWhatIsRepairedKnowsHowFarAllIsBehindTheChange(t *testing.T) {
	r := &numbers{state: 21}
	for _, g := range append(someGraphs(), tiedGraphs()...) {
		was := allDistances(g)
		for _, by := range someChanges(r, g) {
			now := allDistances(weighedByHand(g, by.u, by.v, by.w))
			l, ok := impl.Repaired(g, rows(was...), by.u, by.v, by.w)
			if !ok || !sameRows(l, rows(now...)) {
				t.Fatalf("%v %v: %v %v, not %v", g, by, l, ok, now)
			}
			var turned []int64
			for s := range g.N {
				if !slices.Equal(was[s], now[s]) {
					turned = append(turned, s)
				}
			}
			if a := impl.Affected(g, by.u, by.v, by.w); !slices.Equal(a, turned) {
				t.Fatalf("%v %v: %v, not %v", g, by, a, turned)
			}
		}
	}
}

func TestWhatIsRepairedCanBeRepaired(t *testing.T) {
	r := &numbers{state: 22}
	for _, g := range someGraphs() {
		l := impl.AllPairs(g)
		for _, by := range someChanges(r, g) {
			if len(g.Arcs) == impl.MaxArcs && impl.WeightOf(g, by.u, by.v) == 0 {
				continue
			}
			var ok bool
			l, ok = impl.Repaired(g, l, by.u, by.v, by.w)
			g, _ = impl.Weighed(g, by.u, by.v, by.w)
			if !ok || !sameRows(l, rows(allDistances(g)...)) {
				t.Fatalf("%v behind %v: %v %v", g, by, l, ok)
			}
		}
	}
}

// noRepair holds that with these rows the change is refused.
func noRepair(t *testing.T, name string, g impl.Graph, l []impl.Row, by change) {
	t.Helper()
	if now, ok := impl.Repaired(g, l, by.u, by.v, by.w); ok || len(now) != 0 {
		t.Errorf("%s %v: %v %v", name, by, now, ok)
	}
}

func TestRepairsOfChangesThatAreNotSo(t *testing.T) {
	for _, g := range []impl.Graph{{N: 1}, chain(5, 1), firstArcs(12, 132), firstArcs(impl.MaxNodes, impl.MaxArcs)} {
		list := []change{{0, 0, 0}, {0, 0, 1}, {g.N - 1, g.N - 1, 5}, {0, g.N - 1, -1}, {g.N - 1, 0, impl.MaxW + 1}, {0, 1 % g.N, -1}, {0, 1 % g.N, impl.MaxW + 1}}
		for _, x := range noNodes(g) {
			list = append(list, change{x, 0, 1}, change{0, x, 1}, change{x, x, 1}, change{x, 0, 0}, change{0, x, 0}, change{x, x, 0})
		}
		for _, x := range extremes {
			list = append(list, change{0, g.N - 1, x}, change{g.N - 1, 0, x}, change{x, x, x})
		}
		for _, by := range list {
			if l := impl.Affected(g, by.u, by.v, by.w); len(l) != 0 {
				t.Errorf("%v %v: %v", g, by, l)
			}
			noRepair(t, "not so", g, impl.AllPairs(g), by)
		}
	}
}

func TestRepairsOfAFullGraph(t *testing.T) {
	full := firstArcs(impl.MaxNodes, impl.MaxArcs)
	all := impl.AllPairs(full)
	last := full.Arcs[impl.MaxArcs-1]
	if impl.WeightOf(full, 23, 22) != 0 || impl.DistOf(full, 23, 22) != -1 {
		t.Fatal("23 leads to 22")
	}
	if l := impl.Affected(full, 23, 22, 1); len(l) != 0 {
		t.Error("one arc too many", l)
	}
	noRepair(t, "one arc too many", full, all, change{23, 22, 1})
	for _, by := range []change{{last.From, last.To, 1}, {last.From, last.To, 0}, {23, 22, 0}} {
		l, ok := impl.Repaired(full, all, by.u, by.v, by.w)
		if !ok || !sameRows(l, rows(allDistances(weighedByHand(full, by.u, by.v, by.w))...)) {
			t.Errorf("%v: %v %v", by, l, ok)
		}
	}
	less, _ := impl.Weighed(full, last.From, last.To, 0)
	l, ok := impl.Repaired(less, impl.AllPairs(less), 23, 22, 1)
	if a := impl.Affected(less, 23, 22, 1); !ok || !slices.Equal(a, []int64{23}) || l[23].D[22] != 1 {
		t.Error("the last one that may be", l, ok, a)
	}
}

func TestRepairsOfWrongGraphs(t *testing.T) {
	for _, x := range wrongGraphs() {
		if l := impl.AllPairs(x.g); len(l) != 0 {
			t.Errorf("%s: %v", x.name, l)
		}
		for _, by := range []change{{0, 1, 1}, {0, 1, 0}, {1, 0, 5}, {0, 2, 1}, {2, 1, 0}, {0, 0, 0}} {
			if l := impl.Affected(x.g, by.u, by.v, by.w); len(l) != 0 {
				t.Errorf("%s %v: %v", x.name, by, l)
			}
			noRepair(t, x.name, x.g, nil, by)
			noRepair(t, x.name, x.g, rows([]int64{0}), by)
			noRepair(t, x.name, x.g, impl.AllPairs(impl.Graph{N: 3}), by)
			noRepair(t, x.name, x.g, impl.AllPairs(withArcs(3, arc(0, 1, 1))), by)
			noRepair(t, x.name, x.g, make([]impl.Row, impl.MaxNodes+1), by)
		}
	}
}

// unlikeRows are not the rows l, but for one number, for one row or for all.
func unlikeRows(l []impl.Row) [][]impl.Row {
	var list [][]impl.Row
	put := func(alter func(other []impl.Row) []impl.Row) {
		list = append(list, alter(cloneRows(l)))
	}
	for s := range l {
		for v, d := range l[s].D {
			for _, x := range append([]int64{d - 1, d + 1, -2, far, far + 1}, extremes...) {
				if x != d {
					put(func(other []impl.Row) []impl.Row { other[s].D[v] = x; return other })
				}
			}
		}
		put(func(other []impl.Row) []impl.Row { return slices.Delete(other, s, s+1) })
		put(func(other []impl.Row) []impl.Row {
			return slices.Insert(other, s, impl.Row{D: slices.Clone(other[s].D)})
		})
		put(func(other []impl.Row) []impl.Row { return slices.Insert(other, s, impl.Row{}) })
		put(func(other []impl.Row) []impl.Row { other[s].D = other[s].D[:len(l)-1]; return other })
		put(func(other []impl.Row) []impl.Row { other[s].D = append(other[s].D, -1); return other })
		put(func(other []impl.Row) []impl.Row { other[s].D = append(other[s].D, 0); return other })
		put(func(other []impl.Row) []impl.Row { other[s].D = slices.Repeat(other[s].D, 10000); return other })
		put(func(other []impl.Row) []impl.Row { other[s].D = nil; return other })
	}
	put(func(other []impl.Row) []impl.Row { return append(other, impl.Row{}) })
	put(func(other []impl.Row) []impl.Row { return slices.Repeat(other, 2) })
	put(func(other []impl.Row) []impl.Row { return slices.Repeat(other, 10000) })
	return append(list, nil, []impl.Row{}, make([]impl.Row, len(l)))
}

func TestRepairsOfOtherRows(t *testing.T) {
	for _, g := range []impl.Graph{{N: 1}, {N: 2}, chain(3, 5), chain(4, impl.MaxW), firstArcs(4, 12)} {
		all := impl.AllPairs(g)
		for _, l := range unlikeRows(all) {
			// What is weighed as it was turns nothing, and that it is refused is due to the rows alone.
			for _, by := range []change{{0, g.N - 1, impl.WeightOf(g, 0, g.N-1)}, {g.N - 1, 0, 7}, {0, 1, 0}} {
				noRepair(t, "other rows", g, l, by)
			}
		}
	}
}

func TestRepairsOfTheRowsOfAnotherGraph(t *testing.T) {
	g := chain(4, 5)
	all := impl.AllPairs(g)
	by := change{1, 2, 9}
	now, ok := impl.Repaired(g, all, by.u, by.v, by.w)
	if !ok || sameRows(now, all) {
		t.Fatal(now, ok)
	}
	noRepair(t, "repaired already", g, now, by)
	noRepair(t, "turned", g, impl.AllPairs(impl.Reversed(g)), by)
	noRepair(t, "a node less", g, impl.AllPairs(chain(3, 5)), by)
	noRepair(t, "a node more", g, impl.AllPairs(chain(5, 5)), by)
	noRepair(t, "heavier", g, impl.AllPairs(chain(4, 6)), by)
	turned := slices.Clone(all)
	turned[0], turned[3] = turned[3], turned[0]
	noRepair(t, "in another order", g, turned, by)
	// One that has more arcs but the same distances is as good.
	if l, ok := impl.Repaired(g, impl.AllPairs(withArcs(4, arc(0, 1, 5), arc(0, 2, 11), arc(1, 2, 5), arc(2, 3, 5))), by.u, by.v, by.w); !ok || !sameRows(l, now) {
		t.Error(l, ok)
	}
}

func TestRepairAnswersAreNewMemory(t *testing.T) {
	arcs, arcsUnchanged := guarded(t, chain(5, 4).Arcs, arc(-7, -7, -7))
	g := impl.Graph{N: 5, Arcs: arcs}
	unchanged := []func(){arcsUnchanged}
	var all []impl.Row
	for _, row := range impl.AllPairs(g) {
		d, rowUnchanged := guarded(t, row.D, -7)
		all = append(all, impl.Row{D: d})
		unchanged = append(unchanged, rowUnchanged)
	}
	spare, spareUnchanged := guarded(t, []int64{3, 3}, -7)
	all = append(all, impl.Row{D: spare}, impl.Row{D: spare})[:5]
	was := cloneRows(all[:7])
	holdTwice(t, func() [][]int64 {
		var list [][]int64
		// Behind the first change no row is another one, behind the second one some are, behind the third one all.
		for _, by := range []change{{1, 2, 4}, {2, 3, 9}, {4, 0, 1}, {0, 1, 0}} {
			l, ok := impl.Repaired(g, all, by.u, by.v, by.w)
			if !ok || len(l) != 5 {
				t.Fatal(l, ok)
			}
			for _, row := range l {
				list = append(list, row.D)
			}
			list = append(list, impl.Affected(g, by.u, by.v, by.w))
		}
		for _, row := range impl.AllPairs(g) {
			list = append(list, row.D)
		}
		return list
	})
	now, _ := impl.Repaired(g, all, 1, 2, 4)
	spoil(now, impl.Row{})
	noRepair(t, "the arc is none", g, all, change{1, 1, 1})
	noRepair(t, "a row too many", g, all[:6], change{1, 2, 4})
	for _, same := range append(unchanged, spareUnchanged) {
		same()
	}
	if !sameRows(all[:7], was) {
		t.Error("the rows were changed")
	}
}
