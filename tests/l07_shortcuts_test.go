package tests

import (
	"cmp"
	"slices"
	"testing"

	"loop.example/g00546/impl"
)

const (
	mostCuts   = 600
	mostPacked = 100
)

func cut(from int64, to int64, w int64, via int64) impl.Cut {
	return impl.Cut{From: from, To: to, W: w, Via: via}
}

// allNodes are 0 .. n - 1.
func allNodes(n int64) []int64 {
	var list []int64
	for v := range n {
		list = append(list, v)
	}
	return list
}

// leastWeights are of each two nodes that of the arc or of a cut, 0 where there is neither.
func leastWeights(g impl.Graph, cuts []impl.Cut) [][]int64 {
	var least [][]int64
	for range g.N {
		least = append(least, make([]int64, g.N))
	}
	lighten := func(u int64, v int64, w int64) {
		if least[u][v] == 0 || w < least[u][v] {
			least[u][v] = w
		}
	}
	for _, a := range g.Arcs {
		lighten(a.From, a.To, a.W)
	}
	for _, c := range cuts {
		lighten(c.From, c.To, c.W)
	}
	return least
}

// distancesAmong are those by steps of the least weight between these nodes alone.
func distancesAmong(least [][]int64, nodes []int64) map[[2]int64]int64 {
	dist := map[[2]int64]int64{}
	for _, u := range nodes {
		for _, v := range nodes {
			if u != v && least[u][v] > 0 {
				dist[[2]int64{u, v}] = least[u][v]
			}
		}
	}
	for _, x := range nodes {
		for _, u := range nodes {
			for _, v := range nodes {
				one, first := dist[[2]int64{u, x}]
				other, second := dist[[2]int64{x, v}]
				was, there := dist[[2]int64{u, v}]
				if u != v && first && second && (!there || one+other < was) {
					dist[[2]int64{u, v}] = one + other
				}
			}
		}
	}
	return dist
}

// cutsByHand asks for what CutsAt wants; how many cuts there are does not count.
func cutsByHand(g impl.Graph, left []int64, cuts []impl.Cut, v int64) []impl.Cut {
	least := leastWeights(g, cuts)
	var others []int64
	for u := range g.N {
		if u != v && slices.Contains(left, u) {
			others = append(others, u)
		}
	}
	dist := distancesAmong(least, others)
	var list []impl.Cut
	for _, u := range others {
		for _, w := range others {
			if u == w || least[u][v] == 0 || least[v][w] == 0 {
				continue
			}
			both := least[u][v] + least[v][w]
			if way, there := dist[[2]int64{u, w}]; !there || way > both {
				list = append(list, cut(u, w, both, v))
			}
		}
	}
	return list
}

func orderByHand(g impl.Graph, nodes []int64) impl.Order {
	o := impl.Order{Nodes: nodes}
	for i, v := range nodes {
		o.Cuts = append(o.Cuts, cutsByHand(g, nodes[i:], o.Cuts, v)...)
	}
	return o
}

func sameOrder(a impl.Order, b impl.Order) bool {
	return slices.Equal(a.Nodes, b.Nodes) && slices.Equal(a.Cuts, b.Cuts)
}

func zeroOrder(o impl.Order) bool {
	return len(o.Nodes) == 0 && len(o.Cuts) == 0
}

// withCuts is o with other cuts.
func withCuts(o impl.Order, cuts []impl.Cut) impl.Order {
	return impl.Order{Nodes: slices.Clone(o.Nodes), Cuts: cuts}
}

func TestCutsAsWritten(t *testing.T) {
	// From 0 to 2 it is 7 by 1, and by 3 a little less, as much, or a little more.
	two := func(w int64) impl.Graph {
		return withArcs(4, arc(0, 1, 3), arc(0, 3, 5), arc(1, 2, 4), arc(3, 2, w))
	}
	direct := func(w int64) impl.Graph {
		return withArcs(3, arc(0, 1, 3), arc(0, 2, w), arc(1, 2, 4))
	}
	by1 := []impl.Cut{cut(0, 2, 7, 1)}
	for i, c := range []struct {
		g    impl.Graph
		left []int64
		cuts []impl.Cut
		v    int64
		want []impl.Cut
	}{
		{two(1), []int64{0, 1, 2, 3}, nil, 1, nil},
		{two(2), []int64{0, 1, 2, 3}, nil, 1, nil},
		{two(3), []int64{0, 1, 2, 3}, nil, 1, by1},
		{two(1), []int64{0, 1, 2}, nil, 1, by1}, // 3 is not left
		{two(1), []int64{2, 1, 0}, nil, 1, by1},
		{two(1), []int64{1, 3, 2}, nil, 1, nil}, // 0 is not left
		{two(1), []int64{1, 3, 0}, nil, 1, nil}, // 2 is not left
		{two(1), []int64{1}, nil, 1, nil},
		{two(1), []int64{0, 1, 2, 3}, nil, 0, nil}, // nothing leads there
		{two(1), []int64{0, 1, 2, 3}, nil, 2, nil}, // nothing leads on
		{impl.Graph{N: 1}, []int64{0}, nil, 0, nil},
		{impl.Graph{N: 3}, []int64{0, 1, 2}, nil, 1, nil},
		{direct(6), []int64{0, 1, 2}, nil, 1, nil},
		{direct(7), []int64{0, 1, 2}, nil, 1, nil},
		{direct(8), []int64{0, 1, 2}, nil, 1, by1},
		// There and back again is no cut.
		{withArcs(2, arc(0, 1, 3), arc(1, 0, 4)), []int64{0, 1}, nil, 1, nil},
		// A cut in the place of an arc that is not there, to v and from it.
		{withArcs(4, arc(1, 2, 4)), []int64{0, 1, 2}, []impl.Cut{cut(0, 1, 9, 3)}, 1, []impl.Cut{cut(0, 2, 13, 1)}},
		{withArcs(4, arc(0, 1, 4)), []int64{0, 1, 2}, []impl.Cut{cut(1, 2, 9, 3)}, 1, []impl.Cut{cut(0, 2, 13, 1)}},
		// An arc and a cut of the same ends: the cut lighter, both alike, the arc lighter.
		{withArcs(4, arc(0, 1, 4), arc(1, 2, 4)), []int64{0, 1, 2}, []impl.Cut{cut(0, 1, 3, 3)}, 1, by1},
		{withArcs(4, arc(0, 1, 4), arc(1, 2, 3)), []int64{0, 1, 2}, []impl.Cut{cut(0, 1, 4, 3)}, 1, by1},
		{withArcs(4, arc(0, 1, 4), arc(1, 2, 3)), []int64{0, 1, 2}, []impl.Cut{cut(0, 1, 5, 3)}, 1, by1},
		{withArcs(4, arc(0, 1, 4), arc(1, 2, 4)), []int64{0, 1, 2}, []impl.Cut{cut(1, 2, 3, 3)}, 1, by1},
		{withArcs(4, arc(0, 1, 4), arc(1, 2, 3)), []int64{0, 1, 2}, []impl.Cut{cut(1, 2, 5, 3)}, 1, by1},
		// Two cuts of the same ends, of the same weight or not.
		{withArcs(5, arc(1, 2, 4)), []int64{0, 1, 2}, []impl.Cut{cut(0, 1, 3, 3), cut(0, 1, 3, 4)}, 1, by1},
		{withArcs(5, arc(1, 2, 4)), []int64{0, 1, 2}, []impl.Cut{cut(0, 1, 3, 3), cut(0, 1, 5, 4)}, 1, by1},
		{withArcs(5, arc(1, 2, 4)), []int64{0, 1, 2}, []impl.Cut{cut(0, 1, 5, 3), cut(0, 1, 3, 4)}, 1, by1},
		// Another way may be a cut, or go by one; the arc beside it is heavier.
		{direct(900), []int64{0, 1, 2}, []impl.Cut{cut(0, 2, 6, 1)}, 1, nil},
		{direct(900), []int64{0, 1, 2}, []impl.Cut{cut(0, 2, 7, 1)}, 1, nil},
		{direct(900), []int64{0, 1, 2}, []impl.Cut{cut(0, 2, 8, 1)}, 1, by1},
		{two(9), []int64{0, 1, 2, 3}, []impl.Cut{cut(3, 2, 2, 1)}, 1, nil},
		{two(9), []int64{0, 1, 2, 3}, []impl.Cut{cut(3, 2, 3, 1)}, 1, by1},
		// By way of a node that is gone a cut still leads from what is left to what is left; Via does not count.
		{withArcs(4, arc(0, 3, 1), arc(3, 2, 1)), []int64{0, 1, 2}, []impl.Cut{cut(0, 1, 3, 3), cut(1, 2, 4, 0)}, 1, by1},
		// A cut from a node that is gone leads nowhere, nor does one to it.
		{direct(900), []int64{0, 1, 2}, []impl.Cut{cut(0, 2, 8, 1)}, 2, nil},
		{two(9), []int64{0, 1, 2}, []impl.Cut{cut(3, 2, 1, 1), cut(0, 3, 1, 1)}, 1, by1},
		// By From, then To, however left lies.
		{withArcs(5, arc(0, 3, 1), arc(1, 3, 2), arc(3, 1, 10), arc(3, 2, 20), arc(3, 4, 30), arc(4, 3, 4)), []int64{4, 3, 1, 2, 0}, nil, 3,
			[]impl.Cut{cut(0, 1, 11, 3), cut(0, 2, 21, 3), cut(0, 4, 31, 3), cut(1, 2, 22, 3), cut(1, 4, 32, 3), cut(4, 1, 14, 3), cut(4, 2, 24, 3)}},
		{withArcs(3, arc(0, 1, 1000), arc(1, 2, 1000)), []int64{0, 1, 2}, nil, 1, []impl.Cut{cut(0, 2, 2000, 1)}},
		// The greatest cuts there may be.
		{impl.Graph{N: 4}, []int64{0, 1, 2}, []impl.Cut{cut(0, 1, far, 3), cut(1, 2, far, 3)}, 1, []impl.Cut{cut(0, 2, 2*far, 1)}},
	} {
		if l, ok := impl.CutsAt(c.g, c.left, c.cuts, c.v); !ok || !slices.Equal(l, c.want) {
			t.Errorf("%d: %v %v", i, l, ok)
		}
	}
}

// noCutsAt holds that CutsAt refuses.
func noCutsAt(t *testing.T, name string, g impl.Graph, left []int64, cuts []impl.Cut, v int64) {
	t.Helper()
	if l, ok := impl.CutsAt(g, left, cuts, v); ok || len(l) != 0 {
		t.Errorf("%s: %v %v %d: %v %v", name, left, cuts, v, l, ok)
	}
}

func TestCutsAtRefusals(t *testing.T) {
	g := withArcs(4, arc(0, 1, 3), arc(1, 2, 4))
	for _, left := range unfitNodes(g) {
		for v := range g.N {
			noCutsAt(t, "left", g, left, nil, v)
		}
	}
	for _, left := range [][]int64{nil, {}, {0}, {0, 2, 3}, {3, 2, 0}} {
		noCutsAt(t, "without v", g, left, nil, 1)
	}
	for _, v := range noNodes(g) {
		noCutsAt(t, "v", g, []int64{0, 1, 2, 3}, nil, v)
		noCutsAt(t, "v is left", g, []int64{0, 1, 2, v}, nil, v)
	}
	for _, x := range wrongGraphs() {
		for _, left := range [][]int64{nil, {0}, {0, 1}, {0, 1, 2}} {
			noCutsAt(t, x.name, x.g, left, nil, 0)
		}
	}
}

// unfitCuts are such as a graph of n nodes, four at least, cannot have.
func unfitCuts(n int64) []impl.Cut {
	list := []impl.Cut{{}, cut(0, 0, 5, 2), cut(0, 1, 5, 0), cut(0, 1, 5, 1), cut(3, 3, 5, 3),
		cut(0, 1, 0, 2), cut(0, 1, -1, 2), cut(0, 1, far+1, 2), cut(0, 1, 2*far, 2)}
	for _, x := range append([]int64{-1, n, impl.MaxNodes}, extremes...) {
		list = append(list, cut(x, 1, 5, 2), cut(0, x, 5, 2), cut(0, 1, 5, x))
	}
	for _, x := range extremes {
		list = append(list, cut(0, 1, x, 2))
	}
	return list
}

func TestCutsAtOfCutsThatAreNotSo(t *testing.T) {
	g := withArcs(4, arc(0, 1, 3), arc(1, 2, 4))
	left := []int64{0, 1, 2, 3}
	right := []impl.Cut{cut(0, 1, 1, 2), cut(0, 3, far, 1), cut(3, 0, far-1, 2), cut(2, 3, 2, 1)}
	if l, ok := impl.CutsAt(g, left, right, 1); !ok || len(l) != 1 || l[0] != cut(0, 2, 5, 1) {
		t.Fatal(l, ok)
	}
	for _, c := range unfitCuts(g.N) {
		for place := range len(right) + 1 {
			noCutsAt(t, "a cut", g, left, slices.Insert(slices.Clone(right), place, c), 1)
		}
		// It is asked of all cuts, of those between nodes that are gone, too.
		noCutsAt(t, "a cut of what is gone", g, []int64{3}, []impl.Cut{c}, 3)
	}
}

func TestHowManyCutsThereMayBe(t *testing.T) {
	g := withArcs(4, arc(0, 1, 3), arc(1, 2, 4))
	left := []int64{0, 1, 2}
	// The last one is the only one that counts.
	list := append(slices.Repeat([]impl.Cut{cut(3, 0, 7, 1)}, mostCuts-1), cut(0, 1, 2, 3))
	if l, ok := impl.CutsAt(g, left, list, 1); !ok || len(l) != 1 || l[0] != cut(0, 2, 6, 1) {
		t.Error(l, ok)
	}
	if l, ok := impl.CutsAt(g, left, list[1:], 1); !ok || len(l) != 1 || l[0] != cut(0, 2, 6, 1) {
		t.Error(l, ok)
	}
	noCutsAt(t, "601", g, left, append(slices.Clone(list), cut(0, 1, 2, 3)), 1)
	noCutsAt(t, "10000", g, left, slices.Repeat(list[:1], 10000), 1)
	list[mostCuts-1].W = far + 1
	noCutsAt(t, "the last one", g, left, list, 1)
}

// someCuts are right ones for g, in no order; there are none for a graph of fewer than three nodes.
func someCuts(r *numbers, g impl.Graph, count int) []impl.Cut {
	var list []impl.Cut
	for range count {
		if three := someNodes(r, g, 3); len(three) == 3 {
			list = append(list, cut(three[0], three[1], int64(1+r.below(1+r.below(2000))), three[2]))
		}
	}
	return list
}

func TestCutsOfAllGraphs(t *testing.T) {
	r := &numbers{state: 8}
	for _, g := range append(someGraphs(), tiedGraphs()...) {
		for _, count := range []int{0, 1, 5, 60} {
			left := someNodes(r, g, 1+r.below(int(g.N)))
			cuts := someCuts(r, g, count)
			for _, v := range left {
				l, ok := impl.CutsAt(g, left, cuts, v)
				if want := cutsByHand(g, left, cuts, v); !ok || !slices.Equal(l, want) {
					t.Fatalf("%v %v %v %d: %v %v, not %v", g, left, cuts, v, l, ok, want)
				}
			}
		}
	}
}

// A node that goes leaves all others as far from each other as they were.
func TestWhatGoesKeepsAllDistances(t *testing.T) {
	r := &numbers{state: 9}
	for _, g := range append(someGraphs(), tiedGraphs()...) {
		cuts := someCuts(r, g, 20)
		all := allNodes(g.N)
		before := distancesAmong(leastWeights(g, cuts), all)
		for v := range g.N {
			made, _ := impl.CutsAt(g, all, cuts, v)
			left := slices.Delete(slices.Clone(all), int(v), int(v)+1)
			after := distancesAmong(leastWeights(g, append(slices.Clone(cuts), made...)), left)
			for _, u := range left {
				for _, w := range left {
					if after[[2]int64{u, w}] != before[[2]int64{u, w}] {
						t.Fatalf("%v %v: without %d it is another way from %d to %d", g, cuts, v, u, w)
					}
				}
			}
		}
	}
}

// someOrders are all nodes in some orders: as they are, the other way, and at random.
func someOrders(r *numbers, g impl.Graph) [][]int64 {
	rising := allNodes(g.N)
	falling := slices.Clone(rising)
	slices.Reverse(falling)
	return [][]int64{rising, falling, someNodes(r, g, int(g.N))}
}

// twoCuts is a graph in which 1 leads to 3 by an arc and, nearer, by 2, so that
// two cuts from 0 to 3 may be made, one when 1 goes and one when 2 does.
func twoCuts() impl.Graph {
	return withArcs(5, arc(0, 1, 10), arc(1, 2, 1), arc(1, 3, 10), arc(2, 3, 1), arc(3, 4, 5))
}

func TestOrdersAsWritten(t *testing.T) {
	ring := withArcs(3, arc(0, 1, 1), arc(1, 2, 2), arc(2, 0, 4))
	two := twoCuts()
	for i, c := range []struct {
		g    impl.Graph
		want impl.Order
	}{
		{impl.Graph{N: 1}, impl.Order{Nodes: []int64{0}}},
		{impl.Graph{N: 3}, impl.Order{Nodes: []int64{2, 0, 1}}},
		{ring, impl.Order{Nodes: []int64{0, 1, 2}, Cuts: []impl.Cut{cut(2, 1, 5, 0)}}},
		{ring, impl.Order{Nodes: []int64{2, 1, 0}, Cuts: []impl.Cut{cut(1, 0, 6, 2)}}},
		{chain(4, 5), impl.Order{Nodes: []int64{0, 1, 2, 3}}},
		{chain(4, 5), impl.Order{Nodes: []int64{3, 2, 1, 0}}},
		{chain(4, 5), impl.Order{Nodes: []int64{0, 2, 3, 1}, Cuts: []impl.Cut{cut(1, 3, 10, 2)}}},
		// A cut by a cut, whichever of the two goes first.
		{chain(4, 5), impl.Order{Nodes: []int64{1, 2, 0, 3}, Cuts: []impl.Cut{cut(0, 2, 10, 1), cut(0, 3, 15, 2)}}},
		{chain(4, 5), impl.Order{Nodes: []int64{2, 1, 0, 3}, Cuts: []impl.Cut{cut(1, 3, 10, 2), cut(0, 3, 15, 1)}}},
		// Two cuts of the same ends, the lighter one behind; what goes then goes by that one.
		{two, impl.Order{Nodes: []int64{1, 2, 3, 0, 4}, Cuts: []impl.Cut{cut(0, 2, 11, 1), cut(0, 3, 20, 1), cut(0, 3, 12, 2), cut(0, 4, 17, 3)}}},
		{two, impl.Order{Nodes: []int64{1, 3, 2, 0, 4}, Cuts: []impl.Cut{cut(0, 2, 11, 1), cut(0, 3, 20, 1), cut(0, 4, 25, 3), cut(2, 4, 6, 3), cut(0, 4, 17, 2)}}},
	} {
		if o, ok := impl.OrderOf(c.g, c.want.Nodes); !ok || !sameOrder(o, c.want) {
			t.Errorf("%d: %v %v", i, o, ok)
		}
		if !impl.OrderOk(c.g, c.want) {
			t.Errorf("%d: not right", i)
		}
	}
}

func TestOrdersOfAllGraphs(t *testing.T) {
	r := &numbers{state: 10}
	for _, g := range append(someGraphs(), tiedGraphs()...) {
		for _, nodes := range someOrders(r, g) {
			o, ok := impl.OrderOf(g, nodes)
			if want := orderByHand(g, nodes); !ok || !sameOrder(o, want) {
				t.Fatalf("%v %v: %v %v, not %v", g, nodes, o, ok, want)
			}
			if !impl.OrderOk(g, o) {
				t.Fatalf("%v %v: not right", g, nodes)
			}
		}
	}
}

// hub has more cuts than CutsAt takes, when its nodes go as they rise: to 0
// it is far but from 1 to 5, to which it is near from all others.
func hub() impl.Graph {
	var arcs []impl.Arc
	for u := int64(1); u < impl.MaxNodes; u++ {
		arcs = append(arcs, arc(0, u, 1))
		if u < 6 {
			arcs = append(arcs, arc(u, 0, 1+5*u))
			continue
		}
		arcs = append(arcs, arc(u, 0, impl.MaxW))
		for v := int64(1); v < 6; v++ {
			arcs = append(arcs, arc(u, v, 900-30*v))
		}
	}
	slices.SortFunc(arcs, func(a impl.Arc, b impl.Arc) int {
		return cmp.Or(cmp.Compare(a.From, b.From), cmp.Compare(a.To, b.To))
	})
	return withArcs(impl.MaxNodes, arcs...)
}

func TestAnOrderOfMoreCutsThanCutsAtTakes(t *testing.T) {
	g := hub()
	nodes := allNodes(g.N)
	o, ok := impl.OrderOf(g, nodes)
	if !ok || len(o.Cuts) <= mostCuts || !sameOrder(o, orderByHand(g, nodes)) || !impl.OrderOk(g, o) {
		t.Fatal(len(o.Cuts), ok)
	}
	for v := range g.N {
		if d := impl.QueryOrder(g, o, v, 8); d != impl.DistOf(g, v, 8) {
			t.Errorf("%d: %d", v, d)
		}
	}
	if p, ok := impl.Unpacked(g, o, []int64{22, 23}); !ok || !slices.Equal(p, []int64{22, 5, 0, 23}) {
		t.Error(p, ok)
	}
}

func TestOrderRefusals(t *testing.T) {
	refused := func(name string, g impl.Graph, nodes []int64) {
		t.Helper()
		if o, ok := impl.OrderOf(g, nodes); ok || !zeroOrder(o) {
			t.Errorf("%s %v: %v %v", name, nodes, o, ok)
		}
		noOrder(t, g, impl.Order{Nodes: nodes})
	}
	for _, g := range []impl.Graph{{N: 1}, {N: 4}, chain(5, 1), firstArcs(12, 132), firstArcs(impl.MaxNodes, impl.MaxArcs)} {
		nodes := allNodes(g.N)
		refused("none", g, nil)
		refused("one is lacking at the end", g, nodes[:g.N-1])
		refused("one is lacking ahead", g, nodes[1:])
		refused("one too many", g, allNodes(g.N+1))
		refused("all twice", g, append(slices.Clone(nodes), nodes...))
		for place := range nodes {
			refused("one twice", g, append(slices.Clone(nodes), int64(place)))
			if g.N > 1 {
				refused("one in the place of another", g, changed(nodes, place, int64(place+1)%g.N))
			}
			for _, x := range noNodes(g) {
				refused("no node", g, changed(nodes, place, x))
			}
		}
		refused("many", g, make([]int64, 10000))
	}
	for _, x := range wrongGraphs() {
		for n := range int64(5) {
			refused(x.name, x.g, allNodes(n))
		}
	}
}

// noOrder holds that o is not right for g, and that nothing is told by it.
func noOrder(t *testing.T, g impl.Graph, o impl.Order) {
	t.Helper()
	if impl.OrderOk(g, o) {
		t.Errorf("%v: %v is right", g, o)
	}
	for _, p := range [][2]int64{{0, 0}, {0, g.N - 1}, {0, 1}} {
		if d := impl.QueryOrder(g, o, p[0], p[1]); d != -1 {
			t.Errorf("%v %v: %v is %d", g, o, p, d)
		}
		if l, ok := impl.Unpacked(g, o, p[:]); ok || len(l) != 0 {
			t.Errorf("%v %v: %v is %v %v", g, o, p, l, ok)
		}
	}
	if l, ok := impl.Unpacked(g, o, []int64{0}); ok || len(l) != 0 {
		t.Errorf("%v %v: %v %v", g, o, l, ok)
	}
}

func TestOrdersWithOneThingChanged(t *testing.T) {
	g := withArcs(5, arc(0, 1, 2), arc(0, 2, 5), arc(1, 2, 2), arc(1, 3, 6), arc(2, 3, 1), arc(3, 0, 4))
	o, ok := impl.OrderOf(g, []int64{1, 2, 0, 3, 4})
	if !ok || len(o.Cuts) != 2 || !impl.OrderOk(g, o) {
		t.Fatal(o, ok)
	}
	for place, c := range o.Cuts {
		for _, x := range append([]int64{-1, 1, far}, extremes...) {
			for _, other := range []impl.Cut{cut(c.From+x, c.To, c.W, c.Via), cut(c.From, c.To+x, c.W, c.Via), cut(c.From, c.To, c.W+x, c.Via), cut(c.From, c.To, c.W, c.Via+x)} {
				cuts := slices.Clone(o.Cuts)
				cuts[place] = other
				noOrder(t, g, withCuts(o, cuts))
			}
		}
		noOrder(t, g, withCuts(o, slices.Delete(slices.Clone(o.Cuts), place, place+1)))
		for at := range len(o.Cuts) + 1 {
			noOrder(t, g, withCuts(o, slices.Insert(slices.Clone(o.Cuts), at, c)))
		}
	}
	noOrder(t, g, withCuts(o, nil))
	noOrder(t, g, withCuts(o, []impl.Cut{o.Cuts[1], o.Cuts[0]}))
	noOrder(t, g, withCuts(o, append(slices.Clone(o.Cuts), cut(3, 1, 6, 0))))
	noOrder(t, g, withCuts(o, slices.Repeat(o.Cuts, 5000)))
	// With the same cuts 2 cannot go ahead of 1, but 4, by which there is no way, can go at any time.
	noOrder(t, g, impl.Order{Nodes: []int64{2, 1, 0, 3, 4}, Cuts: o.Cuts})
	for place := range o.Nodes {
		if nodes := slices.Insert([]int64{1, 2, 0, 3}, place, 4); !impl.OrderOk(g, impl.Order{Nodes: nodes, Cuts: o.Cuts}) {
			t.Errorf("%v is not right", nodes)
		}
	}
	// What is right for one graph is not for another one.
	other, _ := impl.Weighed(g, 1, 2, 3)
	noOrder(t, other, o)
	noOrder(t, withArcs(6, g.Arcs...), o)
	noOrder(t, withArcs(4, g.Arcs...), o)
	for _, x := range wrongGraphs() {
		noOrder(t, x.g, o)
	}
}

func TestAllThatAnOrderMayLack(t *testing.T) {
	r := &numbers{state: 11}
	for _, g := range tiedGraphs() {
		o, _ := impl.OrderOf(g, someNodes(r, g, int(g.N)))
		for place, c := range o.Cuts {
			if impl.OrderOk(g, withCuts(o, slices.Delete(slices.Clone(o.Cuts), place, place+1))) {
				t.Fatalf("%v: right without %v", g, c)
			}
			if place > 0 {
				cuts := slices.Clone(o.Cuts)
				cuts[place-1], cuts[place] = c, cuts[place-1]
				if impl.OrderOk(g, withCuts(o, cuts)) {
					t.Fatalf("%v: right with %v ahead", g, c)
				}
			}
		}
	}
}

// fewPairs are all pairs of nodes of a small graph; of a greater one each node is twice among them.
func fewPairs(g impl.Graph) [][2]int64 {
	if g.N <= 5 {
		return somePairs(g)
	}
	list := [][2]int64{{0, 0}, {g.N - 1, g.N - 1}, {0, g.N - 1}, {g.N - 1, 0}}
	for v := range g.N {
		list = append(list, [2]int64{v, (v*5 + 3) % g.N})
	}
	return list
}

func TestByAnOrderItIsAsFarAsWithout(t *testing.T) {
	r := &numbers{state: 12}
	for i, g := range append(someGraphs(), tiedGraphs()...) {
		all := allDistances(g)
		o, _ := impl.OrderOf(g, someOrders(r, g)[i%3])
		for _, p := range fewPairs(g) {
			if d := impl.QueryOrder(g, o, p[0], p[1]); d != all[p[0]][p[1]] {
				t.Fatalf("%v %v: %v is %d", g, o, p, d)
			}
		}
	}
}

// climbedByHand is how far each node is from s by arcs and cuts that lead to
// later nodes alone, or, with down, how far s is from each by such as lead back.
func climbedByHand(g impl.Graph, o impl.Order, s int64, down bool) []int64 {
	least := leastWeights(g, o.Cuts)
	dist := slices.Repeat([]int64{-1}, int(g.N))
	dist[s] = 0
	// A node is as far as it will be when its turn comes: only earlier ones lead there.
	for place, u := range o.Nodes {
		for _, v := range o.Nodes[place+1:] {
			w := least[u][v]
			if down {
				w = least[v][u]
			}
			if dist[u] >= 0 && w > 0 && (dist[v] < 0 || dist[u]+w < dist[v]) {
				dist[v] = dist[u] + w
			}
		}
	}
	return dist
}

func TestClimbingFromBothSidesOneMeetsAsFarAwayAsItIs(t *testing.T) {
	r := &numbers{state: 13}
	for _, g := range append(someGraphs(), tiedGraphs()...) {
		all := allDistances(g)
		for _, nodes := range someOrders(r, g) {
			o, _ := impl.OrderOf(g, nodes)
			for _, p := range somePairs(g) {
				up, down := climbedByHand(g, o, p[0], false), climbedByHand(g, o, p[1], true)
				least := int64(-1)
				for v := range g.N {
					if up[v] >= 0 && down[v] >= 0 && (least < 0 || up[v]+down[v] < least) {
						least = up[v] + down[v]
					}
				}
				if least != all[p[0]][p[1]] {
					t.Fatalf("%v %v: %v meet at %d, not %d", g, o, p, least, all[p[0]][p[1]])
				}
			}
		}
	}
}

func TestQueryOrderOfWhatIsNoNode(t *testing.T) {
	for _, g := range []impl.Graph{{N: 1}, chain(5, 1), firstArcs(6, 30), {N: impl.MaxNodes}} {
		o, _ := impl.OrderOf(g, allNodes(g.N))
		for _, p := range noneOnTheWay(g) {
			if d := impl.QueryOrder(g, o, p[0], p[1]); d != -1 {
				t.Errorf("%v: %v is %d", g, p, d)
			}
		}
	}
}

func TestUnpackedAsWritten(t *testing.T) {
	// From 0 to 2 the cut is lighter than the arc; the one from 0 to 3 goes by it.
	g := withArcs(5, arc(0, 1, 2), arc(0, 2, 5), arc(1, 2, 2), arc(1, 3, 6), arc(2, 3, 1), arc(3, 0, 4))
	order := []int64{1, 2, 0, 3, 4}
	long := chain(6, 5)
	two := twoCuts()
	for i, c := range []struct {
		g     impl.Graph
		order []int64
		p     []int64
		want  []int64
	}{
		{g, order, []int64{0}, []int64{0}},
		{g, order, []int64{4}, []int64{4}},
		{g, order, []int64{0, 1}, []int64{0, 1}},
		{g, order, []int64{0, 2}, []int64{0, 1, 2}},
		{g, order, []int64{0, 3}, []int64{0, 1, 2, 3}},
		{g, order, []int64{0, 3, 0}, []int64{0, 1, 2, 3, 0}},
		{g, order, []int64{1, 3}, []int64{1, 3}}, // though it is less by 2
		{g, order, []int64{3, 0, 3, 0, 2, 3}, []int64{3, 0, 1, 2, 3, 0, 1, 2, 3}},
		{g, []int64{4, 3, 0, 2, 1}, []int64{0, 2}, []int64{0, 2}}, // without that cut the arc is the least
		{g, []int64{4, 3, 0, 2, 1}, []int64{0, 3}, nil},
		{g, []int64{4, 3, 0, 2, 1}, []int64{1, 0}, []int64{1, 3, 0}},
		{g, []int64{4, 3, 0, 2, 1}, []int64{2, 1}, []int64{2, 3, 0, 1}},
		// Cuts within cuts, on the one side, on the other one, on both.
		{long, []int64{1, 2, 3, 4, 0, 5}, []int64{0, 5}, []int64{0, 1, 2, 3, 4, 5}},
		{long, []int64{4, 3, 2, 1, 0, 5}, []int64{0, 5}, []int64{0, 1, 2, 3, 4, 5}},
		{long, []int64{1, 4, 2, 3, 0, 5}, []int64{0, 5}, []int64{0, 1, 2, 3, 4, 5}},
		{long, []int64{1, 4, 3, 2, 0, 5}, []int64{0, 2, 3, 5}, []int64{0, 1, 2, 3, 4, 5}},
		{long, []int64{1, 4, 3, 2, 0, 5}, []int64{0, 3}, nil},
		// Two cuts of the same ends: the lighter one, which is behind.
		{two, []int64{1, 2, 3, 0, 4}, []int64{0, 3}, []int64{0, 1, 2, 3}},
		{two, []int64{1, 2, 3, 0, 4}, []int64{0, 4}, []int64{0, 1, 2, 3, 4}},
		{two, []int64{1, 3, 2, 0, 4}, []int64{0, 3}, []int64{0, 1, 3}}, // though it is less by 2
		{two, []int64{1, 3, 2, 0, 4}, []int64{0, 4}, []int64{0, 1, 2, 3, 4}},
	} {
		o, _ := impl.OrderOf(c.g, c.order)
		if p, ok := impl.Unpacked(c.g, o, c.p); ok != (c.want != nil) || !slices.Equal(p, c.want) {
			t.Errorf("%d: %v %v", i, p, ok)
		}
	}
}

// unpackedByHand asks for a right order. Cut by cut, from the last one to the
// first, it puts Via into each step that is no less by what is ahead of the cut:
// what is put there can be an arc or a cut ahead of it alone.
func unpackedByHand(g impl.Graph, o impl.Order, p []int64) []int64 {
	list := slices.Clone(p)
	for last := len(o.Cuts) - 1; last >= 0; last-- {
		c := o.Cuts[last]
		for i := 0; i+1 < len(list); i++ {
			least := leastWeights(g, o.Cuts[:last])
			if was := least[c.From][c.To]; list[i] == c.From && list[i+1] == c.To && (was == 0 || c.W < was) {
				list = slices.Insert(list, i+1, c.Via)
			}
		}
	}
	return list
}

// packedPaths are paths of steps that are arcs or cuts, from each node, as far as it goes on.
func packedPaths(r *numbers, g impl.Graph, o impl.Order, most int) [][]int64 {
	least := leastWeights(g, o.Cuts)
	var list [][]int64
	for s := range g.N {
		p := []int64{s}
		for len(p) < 1+r.below(most) {
			var next []int64
			for v, w := range least[p[len(p)-1]] {
				if w > 0 {
					next = append(next, int64(v))
				}
			}
			if len(next) == 0 {
				break
			}
			p = append(p, next[r.below(len(next))])
		}
		list = append(list, p)
	}
	return list
}

func TestWhatIsUnpackedIsAsLongAsWhatItWas(t *testing.T) {
	r := &numbers{state: 14}
	graphs := append(someGraphs(), tiedGraphs()...)
	for i, g := range append(graphs, hub()) {
		nodes := someOrders(r, g)[i%3]
		o, _ := impl.OrderOf(g, nodes)
		least := leastWeights(g, o.Cuts)
		for _, p := range packedPaths(r, g, o, 12) {
			length := int64(0)
			for j, v := range p[1:] {
				length += least[p[j]][v]
			}
			l, ok := impl.Unpacked(g, o, p)
			if n, is := impl.LengthOf(g, l); !ok || !is || n != length {
				t.Fatalf("%v %v: %v is %v, as long as %d %v, not %d", g, nodes, p, l, n, ok, length)
			}
			if g.N < 12 && !slices.Equal(l, unpackedByHand(g, o, p)) {
				t.Fatalf("%v %v: %v is %v", g, nodes, p, l)
			}
		}
	}
}

func TestUnpackedPathsOfAllLengths(t *testing.T) {
	g := withArcs(3, arc(0, 1, 2), arc(1, 2, 2), arc(2, 0, 4))
	o, _ := impl.OrderOf(g, []int64{1, 0, 2})
	for _, count := range []int{1, 2, 3, mostPacked - 1, mostPacked, mostPacked + 1, mostPacked + 2, 1000} {
		p, want := []int64{0}, []int64{0}
		for len(p) < count {
			if p[len(p)-1] == 0 {
				p, want = append(p, 2), append(want, 1, 2)
			} else {
				p, want = append(p, 0), append(want, 0)
			}
		}
		right := count <= mostPacked
		if !right {
			want = nil
		}
		if l, ok := impl.Unpacked(g, o, p); ok != right || !slices.Equal(l, want) {
			t.Errorf("%d: %v %v", count, l, ok)
		}
	}
}

func TestUnpackedRefusals(t *testing.T) {
	// There is no step from 1 to 0 nor from 0 to 3, though there is a way.
	g := withArcs(5, arc(0, 1, 2), arc(1, 2, 2), arc(2, 0, 1), arc(2, 3, 1))
	o, ok := impl.OrderOf(g, []int64{1, 0, 3, 4, 2})
	if p, is := impl.Unpacked(g, o, []int64{0, 2, 0, 1, 2, 3}); !ok || !is || !slices.Equal(p, []int64{0, 1, 2, 0, 1, 2, 3}) {
		t.Fatal(o, p)
	}
	list := [][]int64{nil, {}, {1, 0}, {0, 3}, {0, 0}, {4, 4}, {0, 4}, {4, 0}, {0, 2, 1}, {0, 2, 2}, {0, 1, 2, 0, 0}, {2, 3, 2, 0}}
	for _, x := range noNodes(g) {
		list = append(list, []int64{x}, []int64{x, 0}, []int64{x, x}, []int64{0, x}, []int64{0, 2, x}, []int64{0, x, 0})
	}
	for _, p := range list {
		if l, ok := impl.Unpacked(g, o, p); ok || len(l) != 0 {
			t.Errorf("%v: %v %v", p, l, ok)
		}
	}
}

func TestShortcutAnswersAreNewMemory(t *testing.T) {
	arcs, arcsUnchanged := guarded(t, withArcs(4, arc(0, 1, 2), arc(1, 2, 2), arc(2, 0, 1), arc(2, 3, 1)).Arcs, arc(3, 0, 1))
	g := impl.Graph{N: 4, Arcs: arcs}
	left, leftUnchanged := guarded(t, []int64{2, 1, 0}, 3)
	cuts, cutsUnchanged := guarded(t, []impl.Cut{cut(0, 1, 1, 3), cut(2, 1, 1, 3)}, cut(1, 2, 1, 3))
	nodes, nodesUnchanged := guarded(t, []int64{1, 0, 3, 2}, 0)
	path, pathUnchanged := guarded(t, []int64{0, 2, 3}, 0)
	first, _ := impl.OrderOf(g, nodes)
	ordered, orderedUnchanged := guarded(t, first.Nodes, 0)
	made, madeUnchanged := guarded(t, first.Cuts, cut(0, 3, 1, 2))
	right := impl.Order{Nodes: ordered, Cuts: made}
	spoilt := cut(-9, -9, -9, -9)
	for range 2 {
		at, ok := impl.CutsAt(g, left, cuts, 1)
		o, is := impl.OrderOf(g, nodes)
		if !ok || !slices.Equal(at, []impl.Cut{cut(0, 2, 3, 1)}) || !is || !sameOrder(o, first) {
			t.Fatal(at, o)
		}
		spoil(at, spoilt)
		spoil(o.Nodes, -9)
		if !slices.Equal(o.Cuts, first.Cuts) {
			t.Error("Nodes and Cuts share memory")
		}
		spoil(o.Cuts, spoilt)
	}
	holdTwice(t, func() [][]int64 {
		if !impl.OrderOk(g, right) {
			t.Error("not right")
		}
		p, _ := impl.Unpacked(g, right, path)
		one, _ := impl.Unpacked(g, right, path[:1])
		return [][]int64{p, one, {impl.QueryOrder(g, right, 0, 3), impl.QueryOrder(g, right, 3, 0)}}
	})
	for _, unchanged := range []func(){arcsUnchanged, leftUnchanged, cutsUnchanged, nodesUnchanged, pathUnchanged, orderedUnchanged, madeUnchanged} {
		unchanged()
	}
}
