package tests

import (
	"math"
	"slices"
	"testing"

	"loop.example/g00546/impl"
)

// reachesByHand are those of all nodes when they are so far apart.
func reachesByHand(all [][]int64) []int64 {
	reach := make([]int64, len(all))
	for s := range all {
		for t := range all {
			for v := range all {
				if all[s][v] >= 0 && all[v][t] >= 0 && all[s][v]+all[v][t] == all[s][t] {
					reach[v] = max(reach[v], min(all[s][v], all[v][t]))
				}
			}
		}
	}
	return reach
}

// prunedByHand are the nodes that r leaves when they are so far apart.
func prunedByHand(all [][]int64, r []int64, s int64, t int64) []int64 {
	var list []int64
	for v := range all {
		if all[s][v] >= 0 && all[v][t] >= 0 && min(all[s][v], all[v][t]) <= r[v] {
			list = append(list, int64(v))
		}
	}
	return list
}

// changed is l with another number at one place.
func changed(l []int64, place int, x int64) []int64 {
	l = slices.Clone(l)
	l[place] = x
	return l
}

// somePairs are all pairs of nodes of a small graph, and some of a greater one.
func somePairs(g impl.Graph) [][2]int64 {
	var list [][2]int64
	for u := range g.N {
		for v := range g.N {
			if g.N <= 8 || u == v || (u*7+v)%9 == 0 {
				list = append(list, [2]int64{u, v})
			}
		}
	}
	return list
}

func TestReachesAsWritten(t *testing.T) {
	long := make([]int64, impl.MaxNodes)
	for v := range long {
		long[v] = impl.MaxW * int64(min(v, impl.MaxNodes-1-v))
	}
	for i, c := range []struct {
		g    impl.Graph
		want []int64
	}{
		{impl.Graph{N: 1}, []int64{0}},
		{impl.Graph{N: 3}, []int64{0, 0, 0}},
		{impl.Graph{N: impl.MaxNodes}, make([]int64, impl.MaxNodes)},
		{withArcs(2, arc(0, 1, 1000)), []int64{0, 0}},
		// There and back again is no shortest path.
		{withArcs(2, arc(0, 1, 3), arc(1, 0, 5)), []int64{0, 0}},
		{chain(5, 1), []int64{0, 1, 2, 1, 0}},
		{chain(impl.MaxNodes, impl.MaxW), long},
		{withArcs(3, arc(0, 1, 1), arc(1, 2, 1), arc(2, 0, 1)), []int64{1, 1, 1}},
		// Node 1 is on no shortest path but its own, then on one of two, then on the only one.
		{withArcs(3, arc(0, 1, 10), arc(0, 2, 19), arc(1, 2, 10)), []int64{0, 0, 0}},
		{withArcs(3, arc(0, 1, 10), arc(0, 2, 20), arc(1, 2, 10)), []int64{0, 10, 0}},
		{withArcs(3, arc(0, 1, 10), arc(0, 2, 21), arc(1, 2, 10)), []int64{0, 10, 0}},
		// The lesser of both counts, whichever it is.
		{withArcs(3, arc(0, 1, 2), arc(1, 2, 9)), []int64{0, 2, 0}},
		{withArcs(3, arc(0, 1, 9), arc(1, 2, 2)), []int64{0, 2, 0}},
		// Of two pairs the one of the greater of these, though the other one is as far or farther.
		{withArcs(5, arc(0, 2, 1), arc(1, 2, 6), arc(2, 3, 7), arc(2, 4, 100)), []int64{0, 0, 6, 0, 0}},
		// Two nodes between which there is no way are no pair.
		{withArcs(4, arc(0, 1, 8), arc(2, 1, 8)), []int64{0, 0, 0, 0}},
		{withArcs(4, arc(1, 0, 8), arc(1, 2, 8)), []int64{0, 0, 0, 0}},
	} {
		if r := impl.ReachOf(c.g); !slices.Equal(r, c.want) {
			t.Errorf("%d: %v", i, r)
		}
		if r := impl.ReachOf(impl.Reversed(c.g)); !slices.Equal(r, c.want) {
			t.Errorf("%d, turned: %v", i, r)
		}
	}
}

func TestANodesReachIsThatOfTheShortestPathsThatItIsOn(t *testing.T) {
	for _, g := range tiedGraphs() {
		want := make([]int64, g.N)
		for u := range g.N {
			for v := range g.N {
				walks := walksOf(g, u, v)
				for _, w := range walks {
					if w.length > walks[0].length {
						break
					}
					behind := int64(0)
					for i, x := range w.nodes {
						if i > 0 {
							behind += impl.WeightOf(g, w.nodes[i-1], x)
						}
						want[x] = max(want[x], min(behind, w.length-behind))
					}
				}
			}
		}
		if r := impl.ReachOf(g); !slices.Equal(r, want) {
			t.Fatalf("%v: %v, not %v", g, r, want)
		}
	}
}

func TestReachesOfAllGraphs(t *testing.T) {
	for _, g := range someGraphs() {
		r := impl.ReachOf(g)
		if !slices.Equal(r, reachesByHand(allDistances(g))) {
			t.Fatalf("%v: %v", g, r)
		}
		if turned := impl.ReachOf(impl.Reversed(g)); !slices.Equal(r, turned) {
			t.Fatalf("%v: %v, turned %v", g, r, turned)
		}
	}
}

func TestReachOkOfAllGraphs(t *testing.T) {
	for _, g := range append(someGraphs(), tiedGraphs()...) {
		reach := impl.ReachOf(g)
		if !impl.ReachOk(g, reach) {
			t.Fatalf("%v: its reaches are not right", g)
		}
		for place, n := range reach {
			for _, more := range []int64{n + 1, n + far, math.MaxInt64 - 1, math.MaxInt64} {
				if !impl.ReachOk(g, changed(reach, place, more)) {
					t.Fatalf("%v: %d at %d is not right", g, more, place)
				}
			}
			for _, less := range []int64{n - 1, -1, -2, -far, math.MinInt64, math.MinInt64 + 1} {
				if impl.ReachOk(g, changed(reach, place, less)) {
					t.Fatalf("%v: %d at %d is right", g, less, place)
				}
			}
		}
	}
}

// unfitReaches are numbers that are not right for g, but for that of nodes or for one of them.
func unfitReaches(g impl.Graph) [][]int64 {
	reach := impl.ReachOf(g)
	high := slices.Repeat([]int64{far}, int(g.N)+1)
	list := [][]int64{nil, {}, reach[:g.N-1], append(slices.Clone(reach), 0), high, high[:g.N-1], make([]int64, 10000)}
	for _, place := range []int{0, int(g.N) / 2, int(g.N) - 1} {
		list = append(list, changed(reach, place, reach[place]-1), changed(high[:g.N], place, -1), changed(high[:g.N], place, math.MinInt64))
	}
	return list
}

// noReach holds that nothing is told by r of the way from u to v.
func noReach(t *testing.T, g impl.Graph, r []int64, u int64, v int64) {
	t.Helper()
	if l := impl.Pruned(g, r, u, v); len(l) != 0 {
		t.Errorf("%v %v: %d to %d %v", g, r, u, v, l)
	}
	if d := impl.QueryReach(g, r, u, v); d != -1 {
		t.Errorf("%v %v: %d to %d is %d", g, r, u, v, d)
	}
}

func TestUnfitReaches(t *testing.T) {
	for _, g := range []impl.Graph{{N: 1}, {N: 3}, chain(5, 1), firstArcs(12, 132), firstArcs(impl.MaxNodes, impl.MaxArcs), {N: impl.MaxNodes}} {
		for _, r := range unfitReaches(g) {
			if impl.ReachOk(g, r) {
				t.Errorf("%v: %v is right", g, r)
			}
			noReach(t, g, r, 0, 0)
			noReach(t, g, r, 0, g.N-1)
			noReach(t, g, r, g.N-1, 0)
		}
	}
}

func TestReachesOfWrongGraphs(t *testing.T) {
	for _, x := range wrongGraphs() {
		if r := impl.ReachOf(x.g); len(r) != 0 {
			t.Errorf("%s: %v", x.name, r)
		}
		for count := range impl.MaxNodes + 2 {
			r := slices.Repeat([]int64{far}, count)
			if impl.ReachOk(x.g, r) {
				t.Errorf("%s: %d numbers are right", x.name, count)
			}
			noReach(t, x.g, r, 0, 0)
			noReach(t, x.g, r, 0, 1)
			noReach(t, x.g, r, -1, 2)
		}
		if impl.ReachOk(x.g, nil) {
			t.Errorf("%s: none are right", x.name)
		}
	}
}

func TestReachesOfWhatIsNoNode(t *testing.T) {
	for _, g := range []impl.Graph{{N: 1}, chain(5, 1), firstArcs(12, 132), firstArcs(impl.MaxNodes, impl.MaxArcs)} {
		for _, pair := range noneOnTheWay(g) {
			noReach(t, g, impl.ReachOf(g), pair[0], pair[1])
			noReach(t, g, slices.Repeat([]int64{far}, int(g.N)), pair[0], pair[1])
		}
	}
}

func TestPrunedAsWritten(t *testing.T) {
	// From 0 to 4 by 1 and 2; node 3 is on a longer way, node 5 leads there, node 6 is led to.
	g := withArcs(7, arc(0, 1, 2), arc(0, 3, 4), arc(1, 2, 3), arc(2, 4, 4), arc(2, 6, 1), arc(3, 4, 9), arc(5, 0, 1))
	reach := []int64{1, 3, 4, 0, 0, 0, 0}
	if r := impl.ReachOf(g); !slices.Equal(r, reach) {
		t.Fatal(r)
	}
	for i, c := range []struct {
		r    []int64
		s, t int64
		want []int64
	}{
		{reach, 0, 4, []int64{0, 1, 2, 4}},
		{changed(reach, 3, 3), 0, 4, []int64{0, 1, 2, 4}},
		{changed(reach, 3, 4), 0, 4, []int64{0, 1, 2, 3, 4}},
		{changed(reach, 3, math.MaxInt64), 0, 4, []int64{0, 1, 2, 3, 4}},
		{changed(changed(reach, 5, math.MaxInt64), 6, math.MaxInt64), 0, 4, []int64{0, 1, 2, 4}},
		{reach, 5, 4, []int64{0, 1, 2, 4, 5}},
		{changed(reach, 3, 5), 5, 4, []int64{0, 1, 2, 3, 4, 5}},
		{reach, 3, 4, []int64{3, 4}},
		{reach, 0, 3, []int64{0, 3}},
		{reach, 2, 2, []int64{2}},
		{reach, 5, 5, []int64{5}},
		{reach, 4, 0, nil},
		{reach, 3, 6, nil},
		{reach, 6, 5, nil},
	} {
		if l := impl.Pruned(g, c.r, c.s, c.t); !slices.Equal(l, c.want) {
			t.Errorf("%d: %v", i, l)
		}
	}
}

func TestFromThereToThereItself(t *testing.T) {
	// Round and round, 4 in all; each node is at most 1 away from or to the one.
	g := withArcs(3, impl.Arc{From: 0, To: 1, W: 1}, impl.Arc{From: 1, To: 2, W: 2}, impl.Arc{From: 2, To: 0, W: 1})
	reach := impl.ReachOf(g)
	if !slices.Equal(reach, []int64{1, 1, 1}) {
		t.Fatal(reach)
	}
	for v := range g.N {
		if d := impl.QueryReach(g, reach, v, v); d != 0 {
			t.Errorf("%d: %d", v, d)
		}
	}
	if l := impl.Pruned(g, reach, 0, 0); !slices.Equal(l, []int64{0, 1, 2}) {
		t.Error(l)
	}
	h := withArcs(3, impl.Arc{From: 0, To: 1, W: 5}, impl.Arc{From: 1, To: 0, W: 5})
	if l := impl.Pruned(h, []int64{0, 0, 0}, 0, 0); !slices.Equal(l, []int64{0}) {
		t.Error(l)
	}
	if l := impl.Pruned(h, []int64{0, 5, 0}, 0, 0); !slices.Equal(l, []int64{0, 1}) {
		t.Error(l)
	}
}

// rightReaches are numbers that are right for g, from the least ones up.
func rightReaches(g impl.Graph, seed int) [][]int64 {
	reach := impl.ReachOf(g)
	r := &numbers{state: uint64(seed)}
	some := slices.Clone(reach)
	for v := range some {
		some[v] += int64(r.below(3) * r.below(impl.MaxW))
	}
	return [][]int64{reach, some, slices.Repeat([]int64{math.MaxInt64}, int(g.N))}
}

func TestPrunedOfAllGraphs(t *testing.T) {
	for i, g := range append(someGraphs(), tiedGraphs()...) {
		all := allDistances(g)
		for _, r := range rightReaches(g, i) {
			for _, p := range somePairs(g) {
				if l := impl.Pruned(g, r, p[0], p[1]); !slices.Equal(l, prunedByHand(all, r, p[0], p[1])) {
					t.Fatalf("%v %v: %v %v", g, r, p, l)
				}
			}
		}
	}
}

func TestByTheNodesThatReachesLeaveItIsAsFarAsByAll(t *testing.T) {
	for i, g := range append(someGraphs(), tiedGraphs()...) {
		for _, r := range rightReaches(g, i) {
			for _, p := range somePairs(g) {
				want := impl.DistOf(g, p[0], p[1])
				left := impl.Pruned(g, r, p[0], p[1])
				h := impl.Graph{N: g.N}
				for _, a := range g.Arcs {
					if slices.Contains(left, a.From) && slices.Contains(left, a.To) {
						h.Arcs = append(h.Arcs, a)
					}
				}
				if d := impl.DistOf(h, p[0], p[1]); d != want || len(left) == 0 && want >= 0 {
					t.Fatalf("%v %v: %v by %v is %d, not %d", g, r, p, left, d, want)
				}
				if d := impl.QueryReach(g, r, p[0], p[1]); d != want {
					t.Fatalf("%v %v: %v is %d, not %d", g, r, p, d, want)
				}
			}
		}
	}
}

func TestReachAnswersAreNewMemory(t *testing.T) {
	arcs, arcsUnchanged := guarded(t, firstArcs(6, 30).Arcs, impl.Arc{From: -7, To: -7, W: -7})
	g := impl.Graph{N: 6, Arcs: arcs}
	r, reachUnchanged := guarded(t, slices.Repeat([]int64{far}, 6), -7)
	short, shortUnchanged := guarded(t, slices.Repeat([]int64{far}, 5), far)
	holdTwice(t, func() [][]int64 {
		if !impl.ReachOk(g, r) || impl.ReachOk(g, short) {
			t.Error("right")
		}
		none := impl.QueryReach(g, short, 0, 5)
		return [][]int64{impl.ReachOf(g), impl.Pruned(g, r, 0, 5), impl.Pruned(g, r, 3, 3), {impl.QueryReach(g, r, 0, 5), none}, impl.Pruned(g, short, 0, 5)}
	})
	arcsUnchanged()
	reachUnchanged()
	shortUnchanged()
}
