package tests

import (
	"math"
	"runtime"
	"slices"
	"sync"
	"testing"
	"time"

	"loop.example/g00546/impl"
)

// zeroHalf is what comes with a refusal.
func zeroHalf(h impl.Half) bool {
	return len(h.Dist) == 0 && len(h.Done) == 0 && h.Radius == 0
}

func half(dist ...int64) impl.Half {
	return impl.Half{Dist: dist}
}

func TestHalvesAsWritten(t *testing.T) {
	g := withArcs(6, impl.Arc{From: 0, To: 2, W: 5}, impl.Arc{From: 0, To: 3, W: 2}, impl.Arc{From: 0, To: 4, W: 5}, impl.Arc{From: 2, To: 1, W: 1}, impl.Arc{From: 3, To: 2, W: 4}, impl.Arc{From: 5, To: 0, W: 1})
	for _, c := range []struct {
		s, radius  int64
		dist, done []int64
	}{
		{0, 0, []int64{0, -1, -1, -1, -1, -1}, []int64{0}},
		{0, 1, []int64{0, -1, -1, -1, -1, -1}, []int64{0}},
		{0, 2, []int64{0, -1, -1, 2, -1, -1}, []int64{0, 3}},
		{0, 4, []int64{0, -1, -1, 2, -1, -1}, []int64{0, 3}},
		{0, 5, []int64{0, -1, 5, 2, 5, -1}, []int64{0, 3, 2, 4}},
		{0, 6, []int64{0, 6, 5, 2, 5, -1}, []int64{0, 3, 2, 4, 1}},
		{0, 23999, []int64{0, 6, 5, 2, 5, -1}, []int64{0, 3, 2, 4, 1}},
		{0, 24000, []int64{0, 6, 5, 2, 5, -1}, []int64{0, 3, 2, 4, 1}},
		{5, 6, []int64{1, -1, 6, 3, 6, 0}, []int64{5, 0, 3, 2, 4}},
		{1, 24000, []int64{-1, 0, -1, -1, -1, -1}, []int64{1}},
	} {
		h, ok := impl.HalfOf(g, c.s, c.radius)
		if !ok || h.Radius != c.radius || !slices.Equal(h.Dist, c.dist) || !slices.Equal(h.Done, c.done) {
			t.Errorf("%d %d: %v %v", c.s, c.radius, h, ok)
		}
	}
	if h, ok := impl.HalfOf(impl.Graph{N: 1}, 0, 0); !ok || h.Radius != 0 || !slices.Equal(h.Dist, []int64{0}) || !slices.Equal(h.Done, []int64{0}) {
		t.Error("one node", h, ok)
	}
}

// radiiOf are those at which another node is just in or just out, among others.
func radiiOf(dist []int64) []int64 {
	list := []int64{0, far - 1, far}
	for _, d := range dist {
		for _, r := range []int64{d - 1, d, d + 1} {
			if 0 <= r && r <= far {
				list = append(list, r)
			}
		}
	}
	slices.Sort(list)
	return slices.Compact(list)
}

func halfByHand(dist []int64, radius int64) impl.Half {
	h := impl.Half{Radius: radius}
	var reached []impl.Item
	for v, d := range dist {
		if d > radius {
			d = -1
		}
		h.Dist = append(h.Dist, d)
		if d >= 0 {
			reached = append(reached, impl.Item{Key: d, Id: int64(v)})
		}
	}
	slices.SortFunc(reached, compareItems)
	for _, x := range reached {
		h.Done = append(h.Done, x.Id)
	}
	return h
}

func TestHalvesOfAllRadii(t *testing.T) {
	for _, g := range append(someGraphs(), tiedGraphs()...) {
		all := allDistances(g)
		for s := range g.N {
			for _, radius := range radiiOf(all[s]) {
				h, ok := impl.HalfOf(g, s, radius)
				want := halfByHand(all[s], radius)
				if !ok || h.Radius != radius || !slices.Equal(h.Dist, want.Dist) || !slices.Equal(h.Done, want.Done) {
					t.Fatalf("%v from %d, %d: %v %v", g, s, radius, h, ok)
				}
			}
		}
	}
}

func TestHalfOfRefusals(t *testing.T) {
	g := chain(5, 1)
	for _, radius := range append([]int64{-1, far + 1}, extremes...) {
		if h, ok := impl.HalfOf(g, 0, radius); ok || !zeroHalf(h) {
			t.Errorf("radius %d: %v %v", radius, h, ok)
		}
	}
	for _, x := range noNodes(g) {
		for _, radius := range []int64{0, 3, far} {
			if h, ok := impl.HalfOf(g, x, radius); ok || !zeroHalf(h) {
				t.Errorf("from %d: %v %v", x, h, ok)
			}
		}
	}
	for _, x := range wrongGraphs() {
		for s := int64(-1); s < 4; s++ {
			if h, ok := impl.HalfOf(x.g, s, 5); ok || !zeroHalf(h) {
				t.Errorf("%s: from %d %v %v", x.name, s, h, ok)
			}
		}
	}
}

func TestMeetingsAsWritten(t *testing.T) {
	most := slices.Repeat([]int64{-1}, impl.MaxNodes)
	last := slices.Clone(most)
	last[impl.MaxNodes-1] = far
	for i, c := range []struct {
		a, b    impl.Half
		sum, at int64
	}{
		{half(0), half(0), 0, 0},
		{half(3), half(4), 7, 0},
		{half(-1), half(4), -1, -1},
		{half(3), half(-1), -1, -1},
		{half(-1), half(-1), -1, -1},
		{half(-1, 0), half(0, -1), -1, -1},
		{half(-1, 1, 0), half(0, 1, -1), 2, 1},
		{half(5, 2, 1), half(0, 2, 4), 4, 1},
		{half(1, 2, 3), half(4, 3, 2), 5, 0},
		{half(9, 2, 3), half(9, 3, 2), 5, 1},
		{half(9, 9, 0), half(9, 9, 0), 0, 2},
		{half(0, -1, -1), half(24000, -1, -1), 24000, 0},
		{half(24000), half(24000), 48000, 0},
		{half(24000, 24000, 23999), half(24000, 24000, 24000), 47999, 2},
		{impl.Half{Dist: most}, impl.Half{Dist: last}, -1, -1},
		{impl.Half{Dist: last}, impl.Half{Dist: last}, 48000, 23},
		// Dist alone is looked at.
		{impl.Half{Dist: []int64{1, 2}, Done: []int64{77, -5, 3}, Radius: -4}, impl.Half{Dist: []int64{5, 3}, Radius: math.MaxInt64}, 5, 1},
	} {
		if sum, at := impl.MeetOf(c.a, c.b); sum != c.sum || at != c.at {
			t.Errorf("%d: %d %d", i, sum, at)
		}
		if sum, at := impl.MeetOf(c.b, c.a); sum != c.sum || at != c.at {
			t.Errorf("%d, changed: %d %d", i, sum, at)
		}
	}
}

func TestMeetOfRefusals(t *testing.T) {
	full := make([]int64, impl.MaxNodes)
	type pair struct{ a, b impl.Half }
	pairs := []pair{
		{half(), half()},
		{half(), half(0)},
		{half(0), half(0, 0)},
		{half(0, 1), half(0, 1, 2)},
		{half(full...), half(full[:23]...)},
		{half(make([]int64, impl.MaxNodes+1)...), half(make([]int64, impl.MaxNodes+1)...)},
		{half(make([]int64, impl.MaxNodes+1)...), half(full...)},
		{half(make([]int64, 100000)...), half(make([]int64, 100000)...)},
	}
	for _, x := range append([]int64{-2, far + 1}, extremes...) {
		if x == -1 {
			continue
		}
		pairs = append(pairs, pair{half(x), half(0)}, pair{half(0, x), half(0, 0)}, pair{half(0, x), half(0, -1)}, pair{half(x, 0), half(-1, 0)}, pair{half(0, x), half(0, x)})
	}
	for i, p := range pairs {
		if sum, at := impl.MeetOf(p.a, p.b); sum != -1 || at != -1 {
			t.Errorf("%d: %d %d", i, sum, at)
		}
		if sum, at := impl.MeetOf(p.b, p.a); sum != -1 || at != -1 {
			t.Errorf("%d, changed: %d %d", i, sum, at)
		}
	}
	if sum, at := impl.MeetOf(half(full...), half(full...)); sum != 0 || at != 0 {
		t.Error("24 places", sum, at)
	}
}

func TestWhereTwoHalvesMeetItIsNoNearerThanItIsFar(t *testing.T) {
	for _, g := range append(someGraphs()[:20], tiedGraphs()[:60]...) {
		turned := impl.Reversed(g)
		all := allDistances(g)
		for u := range g.N {
			v := (u*5 + 3) % g.N
			for _, radius := range radiiOf(all[u]) {
				a, _ := impl.HalfOf(g, u, radius)
				b, _ := impl.HalfOf(turned, v, far-radius)
				sum, at := impl.MeetOf(a, b)
				if sum >= 0 && (sum < all[u][v] || all[u][v] < 0 || sum != a.Dist[at]+b.Dist[at]) {
					t.Fatalf("%v: %d to %d, %d: %d at %d", g, u, v, radius, sum, at)
				}
				if sum < 0 && all[u][v] >= 0 {
					t.Fatalf("%v: %d to %d, %d: they do not meet", g, u, v, radius)
				}
			}
			a, _ := impl.HalfOf(g, u, far)
			b, _ := impl.HalfOf(turned, v, far)
			if sum, _ := impl.MeetOf(a, b); sum != all[u][v] {
				t.Fatalf("%v: %d to %d: %d", g, u, v, sum)
			}
		}
	}
}

func TestFromBothSidesItIsAsFarAsFromOne(t *testing.T) {
	for _, g := range append(someGraphs(), tiedGraphs()...) {
		for u := range g.N {
			for v := range g.N {
				if d := impl.TwoSided(g, u, v); d != impl.DistOf(g, u, v) {
					t.Fatalf("%v: %d to %d is %d", g, u, v, d)
				}
			}
		}
	}
}

func TestTwoSidedAsWritten(t *testing.T) {
	// Both sides find node 1 ahead of the arc from 2 to 4, which is on the shorter way.
	late := withArcs(5, arc(0, 1, 5), arc(0, 2, 3), arc(1, 3, 5), arc(2, 4, 3), arc(4, 3, 3))
	for i, c := range []struct {
		g          impl.Graph
		s, t, want int64
	}{
		{impl.Graph{N: 1}, 0, 0, 0},
		{impl.Graph{N: 2}, 0, 1, -1},
		{impl.Graph{N: 2}, 1, 1, 0},
		{withArcs(2, arc(0, 1, 1000)), 0, 1, 1000},
		{withArcs(2, arc(0, 1, 1000)), 1, 0, -1},
		{withArcs(2, arc(0, 1, 1), arc(1, 0, 1)), 0, 0, 0},
		{late, 0, 3, 9},
		{late, 3, 0, -1},
		{late, 4, 2, -1},
		{chain(impl.MaxNodes, impl.MaxW), 0, impl.MaxNodes - 1, 23000},
		{chain(impl.MaxNodes, impl.MaxW), 1, 0, -1},
		{chain(impl.MaxNodes, 1), 22, 23, 1},
	} {
		if d := impl.TwoSided(c.g, c.s, c.t); d != c.want {
			t.Errorf("%d: %d", i, d)
		}
	}
}

func TestBothSidesRefusals(t *testing.T) {
	none := func(g impl.Graph, u int64, v int64) {
		t.Helper()
		if d := impl.TwoSided(g, u, v); d != -1 {
			t.Errorf("%v: %d to %d is %d", g, u, v, d)
		}
		if l := impl.Between(g, u, v, far); len(l) != 0 {
			t.Errorf("%v: between %d and %d %v", g, u, v, l)
		}
	}
	for _, x := range wrongGraphs() {
		for u := int64(-1); u < 4; u++ {
			for v := int64(-1); v < 4; v++ {
				none(x.g, u, v)
			}
		}
	}
	for _, g := range []impl.Graph{{N: 1}, chain(5, 1), firstArcs(12, 132), firstArcs(impl.MaxNodes, impl.MaxArcs)} {
		for _, pair := range noneOnTheWay(g) {
			none(g, pair[0], pair[1])
		}
	}
}

func TestBetweenAsWritten(t *testing.T) {
	g := withArcs(6, impl.Arc{From: 0, To: 1, W: 2}, impl.Arc{From: 0, To: 2, W: 1}, impl.Arc{From: 0, To: 4, W: 1}, impl.Arc{From: 1, To: 3, W: 2}, impl.Arc{From: 2, To: 1, W: 2}, impl.Arc{From: 3, To: 0, W: 10}, impl.Arc{From: 5, To: 3, W: 1})
	for _, c := range []struct {
		s, t, most int64
		want       []int64
	}{
		{0, 3, 0, nil},
		{0, 3, 3, nil},
		{0, 3, 4, []int64{0, 1, 3}},
		{0, 3, 5, []int64{0, 1, 2, 3}},
		{0, 3, 23999, []int64{0, 1, 2, 3}},
		{0, 3, 24000, []int64{0, 1, 2, 3}},
		{0, 3, 24001, nil},
		{0, 3, -1, nil},
		{3, 0, 9, nil},
		{3, 0, 10, []int64{0, 3}},
		{3, 0, 23, []int64{0, 3}},
		{3, 0, 24, []int64{0, 1, 3}},
		{3, 0, 25, []int64{0, 1, 2, 3}},
		{3, 0, 24000, []int64{0, 1, 2, 3}},
		{4, 4, 0, []int64{4}},
		{0, 0, 0, []int64{0}},
		{0, 0, 13, []int64{0}},
		{0, 0, 14, []int64{0, 1, 3}},
		{4, 3, 24000, nil},
		{0, 5, 24000, nil},
	} {
		if l := impl.Between(g, c.s, c.t, c.most); !slices.Equal(l, c.want) {
			t.Errorf("%d %d %d: %v", c.s, c.t, c.most, l)
		}
	}
}

func TestBetweenOfAllGraphs(t *testing.T) {
	for _, g := range append(someGraphs(), tiedGraphs()...) {
		all := allDistances(g)
		for u := range g.N {
			v := (u*7 + 2) % g.N
			sums := []int64{}
			for x := range g.N {
				sum := int64(-1)
				if all[u][x] >= 0 && all[x][v] >= 0 {
					sum = all[u][x] + all[x][v]
				}
				sums = append(sums, sum)
			}
			for _, most := range radiiOf(sums) {
				var want []int64
				for x, sum := range sums {
					if 0 <= sum && sum <= most {
						want = append(want, int64(x))
					}
				}
				if l := impl.Between(g, u, v, most); !slices.Equal(l, want) {
					t.Fatalf("%v: %d to %d, %d: %v", g, u, v, most, l)
				}
			}
		}
	}
}

func TestBetweenRefusesOtherNumbers(t *testing.T) {
	g := chain(5, 1)
	for _, most := range append([]int64{-1, far + 1}, extremes...) {
		if l := impl.Between(g, 1, 3, most); len(l) != 0 {
			t.Errorf("%d: %v", most, l)
		}
	}
}

// What runs on behind an answer would see an argument that is written over here: with -race that is told.
func TestNothingRunsOnBehindAnAnswer(t *testing.T) {
	before := runtime.NumGoroutine()
	for _, g := range append(someGraphs(), tiedGraphs()...) {
		for u := range g.N {
			mine := impl.Graph{N: g.N, Arcs: slices.Clone(g.Arcs)}
			impl.TwoSided(mine, u, (u*3+1)%g.N)
			spoil(mine.Arcs, impl.Arc{From: -7, To: -7, W: -7})
		}
	}
	for range 1000 {
		if runtime.NumGoroutine() <= before {
			return
		}
		time.Sleep(time.Millisecond)
	}
	t.Error("there were", before, "goroutines and there are", runtime.NumGoroutine())
}

// On one processor a goroutine that is joined has as good as always ended when the
// call returns; one that is only told to end has not.
func TestBothSidesAreJoinedAheadOfTheAnswer(t *testing.T) {
	defer runtime.GOMAXPROCS(runtime.GOMAXPROCS(1))
	g := firstArcs(impl.MaxNodes, impl.MaxArcs)
	before := runtime.NumGoroutine()
	const calls = 400
	left := 0
	for i := range int64(calls) {
		impl.TwoSided(g, i%6, (i+1)%6)
		if runtime.NumGoroutine() > before {
			left++
		}
	}
	if left > calls/4 {
		t.Errorf("behind %d of %d calls a goroutine was left", left, calls)
	}
}

func TestTheSameAnswersToManyAtOnce(t *testing.T) {
	g := someGraphs()[5]
	var want []int64
	for v := range g.N {
		want = append(want, impl.TwoSided(g, 0, v))
	}
	var asking sync.WaitGroup
	for range 20 {
		asking.Go(func() {
			for v, d := range want {
				if got := impl.TwoSided(g, 0, int64(v)); got != d {
					t.Errorf("to %d it is %d and was %d", v, got, d)
				}
			}
		})
	}
	asking.Wait()
}

func TestHalfAnswersAreNewMemory(t *testing.T) {
	arcs, arcsUnchanged := guarded(t, firstArcs(6, 30).Arcs, impl.Arc{From: -7, To: -7, W: -7})
	g := impl.Graph{N: 6, Arcs: arcs}
	one, oneUnchanged := guarded(t, []int64{0, 4, 7}, -7)
	other, otherUnchanged := guarded(t, []int64{5, 2, -1}, -7)
	done, doneUnchanged := guarded(t, []int64{0, 1, 2}, -7)
	holdTwice(t, func() [][]int64 {
		sum, at := impl.MeetOf(impl.Half{Dist: one, Done: done, Radius: 9}, impl.Half{Dist: other, Done: done, Radius: 9})
		whole, _ := impl.HalfOf(g, 2, far)
		none, _ := impl.HalfOf(g, 2, 0)
		return [][]int64{{sum, at, impl.TwoSided(g, 0, 5)}, whole.Dist, whole.Done, none.Dist, none.Done, impl.Between(g, 0, 5, far), impl.Between(g, 0, 5, 20)}
	})
	arcsUnchanged()
	oneUnchanged()
	otherUnchanged()
	doneUnchanged()
}
