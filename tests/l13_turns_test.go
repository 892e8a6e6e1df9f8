package tests

import (
	"cmp"
	"slices"
	"testing"

	"loop.example/g00546/impl"
)

func ban(a int64, b int64, c int64) impl.Ban {
	return impl.Ban{A: a, B: b, C: c}
}

// turnsIn are all turns that g has, in order: those that may be forbidden.
func turnsIn(g impl.Graph) []impl.Ban {
	var list []impl.Ban
	for _, a := range g.Arcs {
		for _, b := range g.Arcs {
			if a.To == b.From {
				list = append(list, ban(a.From, a.To, b.To))
			}
		}
	}
	slices.SortFunc(list, func(a impl.Ban, b impl.Ban) int {
		return cmp.Or(cmp.Compare(a.A, b.A), cmp.Compare(a.B, b.B), cmp.Compare(a.C, b.C))
	})
	return list
}

// someBans are some of the turns of g, in order, as many if there are so many and if so many may be.
func someBans(r *numbers, g impl.Graph, count int) []impl.Ban {
	list := turnsIn(g)
	for len(list) > min(count, impl.MaxBans) {
		place := r.below(len(list))
		list = slices.Delete(list, place, place+1)
	}
	return list
}

// bansSets are lists of turns of g: none, few, and up to as many as may be.
func bansSets(r *numbers, g impl.Graph) [][]impl.Ban {
	var list [][]impl.Ban
	for _, count := range []int{0, 1, 2, 1 + r.below(6), r.below(impl.MaxBans), impl.MaxBans} {
		list = append(list, someBans(r, g, count))
	}
	return list
}

// turnDistsByHand are how far it is from s by arcs that may follow each other.
func turnDistsByHand(g impl.Graph, l []impl.Ban, s int64) []int64 {
	over := slices.Repeat([]int64{-1}, len(g.Arcs))
	for i, a := range g.Arcs {
		if a.From == s {
			over[i] = a.W
		}
	}
	for nearer := true; nearer; {
		nearer = false
		for i, a := range g.Arcs {
			for j, b := range g.Arcs {
				if over[i] < 0 || a.To != b.From || slices.Contains(l, ban(a.From, a.To, b.To)) {
					continue
				}
				if over[j] < 0 || over[i]+b.W < over[j] {
					over[j], nearer = over[i]+b.W, true
				}
			}
		}
	}
	dist := slices.Repeat([]int64{-1}, int(g.N))
	for i, a := range g.Arcs {
		if over[i] >= 0 && (dist[a.To] < 0 || over[i] < dist[a.To]) {
			dist[a.To] = over[i]
		}
	}
	dist[s] = 0
	return dist
}

// roundabout is one in which who may not turn from 0 by 1 to 2 goes round by 3 first.
func roundabout() impl.Graph {
	return withArcs(4, arc(0, 1, 1), arc(1, 2, 1), arc(1, 3, 2), arc(3, 1, 3))
}

// farAround is a ring of 1 and 3 to 23, into which one comes from 0 and out of
// which one goes to 2. Its bans make one go all the way round, turn at 1, and go
// all the way back.
func farAround() (impl.Graph, []impl.Ban) {
	g := withArcs(impl.MaxNodes, arc(0, 1, impl.MaxW), arc(1, 2, impl.MaxW))
	l := []impl.Ban{ban(0, 1, 2), ban(0, 1, 23), ban(1, 3, 1)}
	ring := append(allNodes(impl.MaxNodes)[3:], 1)
	last := int64(1)
	for _, v := range ring {
		g, _ = impl.Weighed(g, last, v, impl.MaxW)
		g, _ = impl.Weighed(g, v, last, impl.MaxW)
		if last != 1 && v != 1 {
			l = append(l, ban(last, v, last))
		}
		last = v
	}
	return g, append(l, ban(23, 1, 2))
}

func TestBansAsWritten(t *testing.T) {
	if impl.MaxBans != 30 {
		t.Error(impl.MaxBans)
	}
	g := withArcs(4, arc(0, 1, 1), arc(0, 2, 1), arc(1, 0, 1), arc(1, 2, 1), arc(2, 0, 1), arc(2, 1, 1), arc(2, 3, 1))
	for i, c := range []struct {
		l    []impl.Ban
		want bool
	}{
		{nil, true},
		{[]impl.Ban{}, true},
		{[]impl.Ban{ban(0, 1, 2)}, true},
		// There and back again.
		{[]impl.Ban{ban(0, 1, 0)}, true},
		// In order, and out of order, by the first, the second, the third.
		{[]impl.Ban{ban(0, 2, 3), ban(1, 0, 1)}, true},
		{[]impl.Ban{ban(1, 0, 1), ban(0, 2, 3)}, false},
		{[]impl.Ban{ban(0, 1, 2), ban(0, 2, 0)}, true},
		{[]impl.Ban{ban(0, 2, 0), ban(0, 1, 2)}, false},
		{[]impl.Ban{ban(0, 2, 1), ban(0, 2, 3)}, true},
		{[]impl.Ban{ban(0, 2, 3), ban(0, 2, 1)}, false},
		{[]impl.Ban{ban(0, 1, 0), ban(0, 1, 2), ban(1, 2, 3), ban(2, 1, 0)}, true},
		{[]impl.Ban{ban(0, 1, 0), ban(0, 1, 2), ban(2, 1, 0), ban(1, 2, 3)}, false},
		{[]impl.Ban{ban(0, 1, 2), ban(0, 1, 0), ban(1, 2, 3), ban(2, 1, 0)}, false},
		// Twice the same, at once or later.
		{[]impl.Ban{ban(0, 1, 2), ban(0, 1, 2)}, false},
		{[]impl.Ban{ban(0, 1, 0), ban(0, 1, 2), ban(0, 1, 2)}, false},
		{[]impl.Ban{ban(0, 1, 0), ban(0, 1, 2), ban(0, 1, 0)}, false},
		// The first arc is not there, the second one, both.
		{[]impl.Ban{ban(3, 2, 1)}, false},
		{[]impl.Ban{ban(2, 3, 2)}, false},
		{[]impl.Ban{ban(1, 3, 1)}, false},
		{[]impl.Ban{ban(1, 3, 0)}, false},
		{[]impl.Ban{ban(0, 2, 2)}, false},
		{[]impl.Ban{ban(2, 2, 0)}, false},
		{[]impl.Ban{ban(0, 0, 0)}, false},
		{[]impl.Ban{ban(0, 1, 2), ban(0, 1, 3)}, false},
		{[]impl.Ban{ban(0, 1, 1), ban(0, 1, 2)}, false},
		{[]impl.Ban{ban(0, 1, 2), ban(3, 1, 2)}, false},
		// No nodes.
		{[]impl.Ban{ban(-1, 0, 1)}, false},
		{[]impl.Ban{ban(4, 0, 1)}, false},
		{[]impl.Ban{ban(0, 4, 1)}, false},
		{[]impl.Ban{ban(0, 1, 4)}, false},
		{[]impl.Ban{ban(0, 1, -1)}, false},
		{[]impl.Ban{{}}, false},
	} {
		if ok := impl.BansOk(g, c.l); ok != c.want {
			t.Errorf("%d: %v", i, ok)
		}
	}
	for _, x := range extremes {
		for _, b := range []impl.Ban{ban(x, 0, 1), ban(0, x, 1), ban(0, 1, x), ban(x, x, x)} {
			if impl.BansOk(g, []impl.Ban{b}) || impl.BansOk(g, []impl.Ban{ban(0, 1, 2), b}) || impl.BansOk(g, []impl.Ban{b, ban(2, 1, 0)}) {
				t.Error(b)
			}
		}
	}
}

func TestHowManyBansThereMayBe(t *testing.T) {
	g := firstArcs(7, 42)
	all := turnsIn(g)
	for count := range 40 {
		want := count <= impl.MaxBans
		l := all[:count]
		if ok := impl.BansOk(g, l); ok != want {
			t.Errorf("%d: %v", count, ok)
		}
		if ok := impl.TurnOk(g, l, []int64{6, 5, 6, 5}); ok != want {
			t.Errorf("%d: the path is %v", count, ok)
		}
		if d := impl.DistTurn(g, l, 6, 0); (d >= 0) != want {
			t.Errorf("%d: %d", count, d)
		}
	}
	if impl.BansOk(g, all) || impl.BansOk(g, slices.Repeat(all, 100)) {
		t.Error("all")
	}
}

func TestBansOfAllGraphs(t *testing.T) {
	r := &numbers{state: 25}
	for _, g := range append(someGraphs(), tiedGraphs()...) {
		for _, l := range bansSets(r, g) {
			if !impl.BansOk(g, l) {
				t.Fatalf("%v %v", g, l)
			}
			if len(l) < 2 {
				continue
			}
			place := r.below(len(l) - 1)
			wrong := slices.Clone(l)
			wrong[place], wrong[place+1] = wrong[place+1], wrong[place]
			if impl.BansOk(g, wrong) {
				t.Fatalf("%v %v", g, wrong)
			}
			wrong[place] = wrong[place+1]
			if impl.BansOk(g, wrong) {
				t.Fatalf("%v %v", g, wrong)
			}
			// Without an arc of a ban, the ban is none.
			rest, _ := impl.Weighed(g, l[place].B, l[place].C, 0)
			other, _ := impl.Weighed(g, l[place].A, l[place].B, 0)
			if impl.BansOk(rest, l) || impl.BansOk(other, l) {
				t.Fatalf("%v %v without an arc", g, l)
			}
		}
	}
}

func TestTurnsAsWritten(t *testing.T) {
	g := withArcs(4, arc(0, 1, 2), arc(0, 2, 5), arc(1, 2, 2), arc(1, 3, 6), arc(2, 3, 1), arc(3, 0, 4), arc(3, 2, 1))
	one := []impl.Ban{ban(1, 2, 3)}
	two := []impl.Ban{ban(1, 2, 3), ban(3, 0, 1)}
	back := []impl.Ban{ban(2, 3, 2)}
	for i, c := range []struct {
		l    []impl.Ban
		p    []int64
		want bool
	}{
		// Of one node, of two, of three.
		{one, []int64{2}, true},
		{two, []int64{0}, true},
		{one, []int64{1, 2}, true},
		{one, []int64{2, 3}, true},
		{one, []int64{1, 2, 3}, false},
		{nil, []int64{1, 2, 3}, true},
		{one, []int64{0, 2, 3}, true},
		{one, []int64{3, 2, 3}, true},
		// Broken at the beginning, in the middle, at the end.
		{one, []int64{1, 2, 3, 0, 1}, false},
		{one, []int64{0, 1, 2, 3, 0}, false},
		{one, []int64{0, 2, 3, 0, 1, 2, 3}, false},
		{one, []int64{0, 1, 2}, true},
		{nil, []int64{0, 1, 2, 3, 0}, true},
		// The three are there, but not one behind the other, or in another order.
		{one, []int64{1, 3, 2, 3}, true},
		{one, []int64{1, 3, 0, 2, 3}, true},
		{one, []int64{2, 3, 0, 1}, true},
		{one, []int64{1, 2}, true},
		// Each ban counts, the first and the last.
		{two, []int64{2, 3, 0, 1, 3}, false},
		{two, []int64{3, 0, 2, 3}, true},
		{two, []int64{0, 1, 2, 3}, false},
		{two, []int64{3, 0, 1, 2, 3}, false},
		// There and back again.
		{back, []int64{2, 3, 2}, false},
		{back, []int64{3, 2, 3}, true},
		{back, []int64{3, 2, 3, 2}, false},
		{back, []int64{2, 3, 0, 2}, true},
		// No path: none, of no node, without an arc, in the wrong sense.
		{nil, nil, false},
		{one, nil, false},
		{one, []int64{}, false},
		{nil, []int64{4}, false},
		{nil, []int64{-1}, false},
		{nil, []int64{0, 3}, false},
		{nil, []int64{1, 0}, false},
		{nil, []int64{0, 0}, false},
		{nil, []int64{0, 1, 2, 1}, false},
		{nil, []int64{0, 1, 2, 4}, false},
		{one, []int64{2, 0}, false},
		// A path, but the bans are not right.
		{[]impl.Ban{ban(3, 0, 1), ban(1, 2, 3)}, []int64{0, 1}, false},
		{[]impl.Ban{ban(1, 2, 3), ban(1, 2, 3)}, []int64{0}, false},
		{[]impl.Ban{ban(1, 2, 0)}, []int64{0, 1, 3}, false},
	} {
		if ok := impl.TurnOk(g, c.l, c.p); ok != c.want {
			t.Errorf("%d: %v", i, ok)
		}
	}
	for _, x := range noNodes(g) {
		for _, p := range [][]int64{{x}, {x, 0}, {0, x}, {0, x, 1}, {0, 1, x}, {x, x, x}} {
			if impl.TurnOk(g, nil, p) || impl.TurnOk(g, one, p) {
				t.Error(p)
			}
		}
	}
}

func TestTurnsOfLongPaths(t *testing.T) {
	g := withArcs(3, arc(0, 1, 1), arc(0, 2, 1), arc(1, 0, 1), arc(1, 2, 1), arc(2, 0, 1))
	bans := []impl.Ban{ban(0, 1, 2), ban(1, 0, 2)}
	for _, count := range []int{1, 2, 3, 999, 1000} {
		if !impl.TurnOk(g, bans, toAndFro(count)) || !impl.TurnOk(g, nil, toAndFro(count)) {
			t.Errorf("%d nodes", count)
		}
		// At the very end a turn that is forbidden, or one more that is not.
		p := append(toAndFro(count-1), 2)
		if ok := impl.TurnOk(g, bans, p); ok != (count < 3) {
			t.Errorf("%d nodes, the last one 2: %v", count, ok)
		}
		if !impl.TurnOk(g, nil, p) {
			t.Errorf("%d nodes, the last one 2, without bans", count)
		}
	}
	for _, count := range []int{0, 1001, 1002, 100000} {
		if impl.TurnOk(g, bans, toAndFro(count)) || impl.TurnOk(g, nil, toAndFro(count)) {
			t.Errorf("%d nodes", count)
		}
	}
	p := append(append([]int64{2}, toAndFro(998)...), 0)
	if len(p) != 1000 || !impl.TurnOk(g, bans, p) || impl.TurnOk(g, []impl.Ban{ban(2, 0, 1)}, p) || impl.TurnOk(g, []impl.Ban{ban(0, 1, 0)}, p) {
		t.Error("from 2, 1000 nodes")
	}
	if impl.TurnOk(g, bans, append(p, 1)) {
		t.Error("from 2, 1001 nodes")
	}
}

func TestDistTurnAsWritten(t *testing.T) {
	g := withArcs(5, arc(0, 1, 2), arc(0, 2, 5), arc(1, 2, 2), arc(1, 3, 6), arc(2, 3, 1), arc(3, 0, 4))
	round := roundabout()
	// Round by 3 one may not come to 2 either, or one may not go on to 3, or not come back.
	lacking, _ := impl.Weighed(round, 3, 1, 0)
	// Three times by 1, round by 2 and by 3, until one may go on to 4.
	thrice := withArcs(5, arc(0, 1, 1), arc(1, 2, 1), arc(1, 3, 1), arc(1, 4, 1), arc(2, 1, 1), arc(3, 1, 1))
	ring := withArcs(3, arc(0, 1, 1), arc(1, 0, 1), arc(1, 2, 1))
	late := withArcs(4, arc(0, 1, 1), arc(0, 2, 4), arc(0, 3, 50), arc(1, 3, 1), arc(2, 1, 5))
	around, aroundBans := farAround()
	for i, c := range []struct {
		g       impl.Graph
		l       []impl.Ban
		s, t, d int64
	}{
		{g, nil, 0, 3, 5},
		{g, []impl.Ban{ban(0, 1, 2)}, 0, 3, 6},
		{g, []impl.Ban{ban(0, 1, 2), ban(0, 2, 3)}, 0, 3, 8},
		{g, []impl.Ban{ban(0, 1, 2), ban(0, 1, 3), ban(0, 2, 3)}, 0, 3, -1},
		{g, []impl.Ban{ban(0, 1, 3), ban(0, 2, 3)}, 0, 3, 5},
		{g, []impl.Ban{ban(0, 1, 3), ban(1, 2, 3)}, 0, 3, 6},
		// Who begins in the middle of a ban does not break it.
		{g, []impl.Ban{ban(0, 1, 2), ban(0, 1, 3), ban(0, 2, 3)}, 1, 3, 3},
		{g, []impl.Ban{ban(0, 1, 2), ban(0, 1, 3), ban(0, 2, 3)}, 2, 3, 1},
		{g, []impl.Ban{ban(0, 1, 2)}, 1, 2, 2},
		{g, []impl.Ban{ban(0, 1, 2)}, 0, 1, 2},
		{g, []impl.Ban{ban(0, 1, 2)}, 3, 2, 9},
		{g, []impl.Ban{ban(3, 0, 1)}, 3, 1, -1},
		{g, []impl.Ban{ban(3, 0, 1), ban(3, 0, 2)}, 3, 0, 4},
		// s is t.
		{g, []impl.Ban{ban(0, 1, 2), ban(0, 1, 3), ban(0, 2, 3)}, 0, 0, 0},
		{g, []impl.Ban{ban(2, 3, 0)}, 3, 3, 0},
		{g, nil, 4, 4, 0},
		{impl.Graph{N: 1}, nil, 0, 0, 0},
		{impl.Graph{N: 2}, nil, 0, 1, -1},
		// Not reached, with bans or without.
		{g, nil, 0, 4, -1},
		{g, []impl.Ban{ban(0, 1, 2)}, 4, 0, -1},
		// A node must come twice.
		{round, nil, 0, 2, 2},
		{round, []impl.Ban{ban(0, 1, 2)}, 0, 2, 7},
		{round, []impl.Ban{ban(0, 1, 2)}, 1, 2, 1},
		{round, []impl.Ban{ban(0, 1, 2)}, 3, 2, 4},
		{round, []impl.Ban{ban(0, 1, 2), ban(1, 3, 1)}, 0, 2, -1},
		{round, []impl.Ban{ban(0, 1, 2), ban(0, 1, 3)}, 0, 2, -1},
		{round, []impl.Ban{ban(0, 1, 2), ban(3, 1, 2)}, 0, 2, -1},
		{round, []impl.Ban{ban(0, 1, 3), ban(1, 3, 1), ban(3, 1, 2)}, 0, 2, 2},
		{lacking, nil, 0, 2, 2},
		{lacking, []impl.Ban{ban(0, 1, 2)}, 0, 2, -1},
		{thrice, []impl.Ban{ban(0, 1, 3), ban(0, 1, 4), ban(2, 1, 4)}, 0, 4, 6},
		{thrice, []impl.Ban{ban(0, 1, 4)}, 0, 4, 4},
		{thrice, []impl.Ban{ban(0, 1, 4), ban(2, 1, 4), ban(3, 1, 4)}, 0, 4, -1},
		{thrice, []impl.Ban{ban(0, 1, 3), ban(0, 1, 4), ban(2, 1, 3), ban(2, 1, 4)}, 0, 4, -1},
		// By the first node again, with its arc as its last one.
		{ring, []impl.Ban{ban(0, 1, 2)}, 0, 2, -1},
		{ring, []impl.Ban{ban(1, 0, 1)}, 0, 2, 2},
		{ring, []impl.Ban{ban(1, 0, 1)}, 1, 2, 1},
		// One comes to a node first by the arc of a ban, later by another one, from which it is nearer to go on.
		{late, nil, 0, 3, 2},
		{late, []impl.Ban{ban(0, 1, 3)}, 0, 3, 10},
		{late, []impl.Ban{ban(0, 1, 3), ban(2, 1, 3)}, 0, 3, 50},
		{late, []impl.Ban{ban(0, 1, 3)}, 0, 1, 1},
		// Farther than anything is without bans.
		{chain(impl.MaxNodes, impl.MaxW), nil, 0, 23, 23000},
		{chain(impl.MaxNodes, impl.MaxW), []impl.Ban{ban(21, 22, 23)}, 0, 23, -1},
		{chain(impl.MaxNodes, impl.MaxW), []impl.Ban{ban(21, 22, 23)}, 0, 22, 22000},
		{around, nil, 0, 2, 2000},
		{around, aroundBans, 0, 2, 46000},
		{around, aroundBans[:len(aroundBans)-1], 0, 2, 24000},
		{around, slices.Delete(slices.Clone(aroundBans), 1, 2), 0, 2, 24000},
		{around, slices.Delete(slices.Clone(aroundBans), 2, 3), 0, 2, 4000},
	} {
		if d := impl.DistTurn(c.g, c.l, c.s, c.t); d != c.d {
			t.Errorf("%d: %d", i, d)
		}
	}
}

func TestDistTurnOfAllGraphs(t *testing.T) {
	r := &numbers{state: 26}
	for _, g := range append(someGraphs(), tiedGraphs()...) {
		for _, l := range bansSets(r, g) {
			for s := range g.N {
				if g.N > 8 && (s+int64(len(l)))%5 > 0 {
					continue
				}
				want := turnDistsByHand(g, l, s)
				for v := range g.N {
					if d := impl.DistTurn(g, l, s, v); d != want[v] {
						t.Fatalf("%v %v: %d to %d is %d, not %d", g, l, s, v, d, want[v])
					}
				}
			}
		}
	}
}

// shortestTurning is the least length of the paths of at most so many nodes that TurnOk takes.
func shortestTurning(g impl.Graph, l []impl.Ban, s int64, t int64, most int) int64 {
	least := int64(-1)
	var on func(path []int64)
	on = func(path []int64) {
		if !impl.TurnOk(g, l, path) {
			return
		}
		last := path[len(path)-1]
		if length, _ := impl.LengthOf(g, path); last == t && (least < 0 || length < least) {
			least = length
		}
		for _, a := range g.Arcs {
			if a.From == last && len(path) < most {
				on(append(slices.Clone(path), a.To))
			}
		}
	}
	on([]int64{s})
	return least
}

func TestDistTurnIsTheLeastOfThePathsThatTurnOkTakes(t *testing.T) {
	r := &numbers{state: 27}
	most := 8
	list := []impl.Graph{roundabout()}
	for _, g := range tiedGraphs() {
		// A path that comes to no arc twice has one node more than there are arcs, at most.
		if len(g.Arcs) < most {
			list = append(list, g)
		}
	}
	for _, g := range list {
		for _, l := range bansSets(r, g) {
			for s := range g.N {
				for v := range g.N {
					want := shortestTurning(g, l, s, v, most)
					if d := impl.DistTurn(g, l, s, v); d != want {
						t.Fatalf("%v %v: %d to %d is %d, not %d", g, l, s, v, d, want)
					}
				}
			}
		}
	}
}

// noNearer tells whether it is as far or farther now, -1 being farther than all.
func noNearer(now int64, was int64) bool {
	return now < 0 || was >= 0 && now >= was
}

func TestWithForbiddenTurnsItIsNoNearerAndWithOneLessNoFarther(t *testing.T) {
	r := &numbers{state: 28}
	for _, g := range append(someGraphs(), tiedGraphs()...) {
		for _, l := range bansSets(r, g) {
			for _, p := range fewPairs(g) {
				s, v := p[0], p[1]
				d := impl.DistTurn(g, l, s, v)
				free := impl.DistOf(g, s, v)
				if !noNearer(d, free) || len(l) == 0 && d != free || impl.DistTurn(g, nil, s, v) != free {
					t.Fatalf("%v %v: %d to %d is %d, without bans %d", g, l, s, v, d, free)
				}
				for i := range l {
					if i > 4 {
						break
					}
					less := slices.Delete(slices.Clone(l), i, i+1)
					if e := impl.DistTurn(g, less, s, v); !noNearer(d, e) || !noNearer(e, free) {
						t.Fatalf("%v %v: %d to %d is %d, without ban %d it is %d", g, l, s, v, d, i, e)
					}
				}
			}
		}
	}
}

// A path of the distance that breaks a ban is a way no more: without any other way it is farther.
func TestABanOnTheOnlyWayMakesItFarther(t *testing.T) {
	g := chain(impl.MaxNodes, 3)
	for _, b := range turnsIn(g) {
		l := []impl.Ban{b}
		for s := range g.N {
			for v := s; v < g.N; v++ {
				want := (v - s) * 3
				if s <= b.A && v >= b.C {
					want = -1
				}
				if d := impl.DistTurn(g, l, s, v); d != want {
					t.Fatalf("%v: %d to %d is %d", b, s, v, d)
				}
			}
		}
	}
}

func TestDistTurnThatIsNotSo(t *testing.T) {
	r := &numbers{state: 29}
	for _, g := range []impl.Graph{{N: 1}, chain(5, 1), firstArcs(12, 132), firstArcs(impl.MaxNodes, impl.MaxArcs)} {
		for _, l := range bansSets(r, g) {
			for _, p := range noneOnTheWay(g) {
				if d := impl.DistTurn(g, l, p[0], p[1]); d != -1 {
					t.Errorf("%v %v: %v is %d", g, l, p, d)
				}
			}
		}
	}
	g := roundabout()
	right := []impl.Ban{ban(0, 1, 2), ban(1, 3, 1), ban(3, 1, 2)}
	if !impl.BansOk(g, right) {
		t.Fatal(right)
	}
	wrong := [][]impl.Ban{
		{right[1], right[0]},
		{right[0], right[0]},
		{right[0], right[2], right[1]},
		append(slices.Clone(right), right[2]),
		append(slices.Clone(right), ban(3, 1, 4)),
		{ban(2, 1, 3)},
		{ban(0, 1, 0)},
		slices.Repeat(right, 11),
	}
	for _, x := range extremes {
		wrong = append(wrong, []impl.Ban{ban(x, 1, 2)}, []impl.Ban{ban(0, x, 2)}, []impl.Ban{ban(0, 1, x)})
	}
	for i, l := range wrong {
		// From a node to itself, too, and between nodes that no ban is about.
		for _, p := range [][2]int64{{0, 0}, {0, 1}, {0, 2}, {2, 2}, {3, 1}} {
			if d := impl.DistTurn(g, l, p[0], p[1]); d != -1 {
				t.Errorf("%d: %v is %d", i, p, d)
			}
		}
		if impl.BansOk(g, l) || impl.TurnOk(g, l, []int64{0}) {
			t.Errorf("%d", i)
		}
	}
}

func TestTurnsOfWrongGraphs(t *testing.T) {
	for _, x := range wrongGraphs() {
		for _, l := range [][]impl.Ban{nil, {}, {ban(0, 1, 2)}, {ban(0, 1, 0)}} {
			if impl.BansOk(x.g, l) {
				t.Errorf("%s: %v", x.name, l)
			}
			for _, p := range [][]int64{nil, {0}, {0, 1}, {1, 2}, {0, 1, 2}} {
				if impl.TurnOk(x.g, l, p) {
					t.Errorf("%s: %v %v", x.name, l, p)
				}
			}
			for _, p := range [][2]int64{{0, 0}, {0, 1}, {1, 2}, {0, 2}, {-1, 0}} {
				if d := impl.DistTurn(x.g, l, p[0], p[1]); d != -1 {
					t.Errorf("%s: %v is %d", x.name, p, d)
				}
			}
		}
	}
}

func TestNothingIsWrittenIntoBans(t *testing.T) {
	arcs, arcsUnchanged := guarded(t, roundabout().Arcs, arc(3, 2, 1))
	g := impl.Graph{N: 4, Arcs: arcs}
	l, bansUnchanged := guarded(t, []impl.Ban{ban(0, 1, 2)}, ban(3, 1, 2))
	wrong, wrongUnchanged := guarded(t, []impl.Ban{ban(3, 1, 2), ban(0, 1, 2)}, ban(0, 1, 3))
	p, pathUnchanged := guarded(t, []int64{0, 1, 3, 1, 2}, 9)
	for range 2 {
		if !impl.BansOk(g, l) || !impl.TurnOk(g, l, p) || impl.TurnOk(g, l, p[:0]) || impl.DistTurn(g, l, 0, 2) != 7 {
			t.Error(g, l, p)
		}
		if impl.BansOk(g, wrong) || impl.TurnOk(g, wrong, p) || impl.DistTurn(g, wrong, 0, 2) != -1 {
			t.Error(g, wrong, p)
		}
	}
	for _, unchanged := range []func(){arcsUnchanged, bansUnchanged, wrongUnchanged, pathUnchanged} {
		unchanged()
	}
}
