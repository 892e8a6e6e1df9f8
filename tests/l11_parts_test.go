package tests

import (
	"slices"
	"testing"

	"loop.example/g00546/impl"
)

// partsByHand are those of all nodes when they are so far apart.
func partsByHand(all [][]int64) []int64 {
	var parts []int64
	for v := range all {
		least := 0
		for all[least][v] < 0 || all[v][least] < 0 {
			least++
		}
		parts = append(parts, int64(least))
	}
	return parts
}

// condensedByHand is g when these are its parts, and their least nodes.
func condensedByHand(g impl.Graph, parts []int64) (impl.Graph, []int64) {
	var firsts []int64
	for v, least := range parts {
		if int64(v) == least {
			firsts = append(firsts, least)
		}
	}
	h := impl.Graph{N: int64(len(firsts))}
	for from, u := range firsts {
		for to, v := range firsts {
			w := int64(0)
			for _, a := range g.Arcs {
				if u != v && parts[a.From] == u && parts[a.To] == v && (w == 0 || a.W < w) {
					w = a.W
				}
			}
			if w > 0 {
				h.Arcs = append(h.Arcs, arc(int64(from), int64(to), w))
			}
		}
	}
	return h, firsts
}

// ringAround is a ring of 1, 3, 6 and 4, in which 0 and 5 are a part, and 2 another one, by itself.
func ringAround() impl.Graph {
	return withArcs(7, arc(0, 2, 8), arc(0, 5, 1), arc(1, 3, 1), arc(1, 5, 6), arc(3, 0, 5), arc(3, 6, 1), arc(4, 1, 1), arc(4, 2, 9), arc(5, 0, 1), arc(6, 4, 1))
}

func TestWhatIsReachedAsWritten(t *testing.T) {
	g := withArcs(5, arc(0, 3, 7), arc(1, 0, 1), arc(3, 1, 1000), arc(3, 4, 1))
	for i, c := range []struct {
		g    impl.Graph
		s    int64
		want []int64
	}{
		{impl.Graph{N: 1}, 0, []int64{0}},
		{impl.Graph{N: 3}, 1, []int64{1}},
		{g, 0, []int64{0, 1, 3, 4}},
		{g, 1, []int64{0, 1, 3, 4}},
		{g, 2, []int64{2}},
		{g, 3, []int64{0, 1, 3, 4}},
		{g, 4, []int64{4}},
		{chain(impl.MaxNodes, impl.MaxW), 0, allNodes(impl.MaxNodes)},
		{chain(impl.MaxNodes, impl.MaxW), 22, []int64{22, 23}},
		{chain(impl.MaxNodes, impl.MaxW), 23, []int64{23}},
		{impl.Reversed(chain(impl.MaxNodes, 1)), 23, allNodes(impl.MaxNodes)},
		{impl.Reversed(chain(impl.MaxNodes, 1)), 1, []int64{0, 1}},
		{ringAround(), 6, allNodes(7)},
		{ringAround(), 5, []int64{0, 2, 5}},
		{ringAround(), 2, []int64{2}},
	} {
		if l := impl.ReachedFrom(c.g, c.s); !slices.Equal(l, c.want) {
			t.Errorf("%d: %v", i, l)
		}
	}
}

func TestWhatIsReachedHasADistance(t *testing.T) {
	for _, g := range append(someGraphs(), tiedGraphs()...) {
		all := allDistances(g)
		for s := range g.N {
			var want []int64
			for v := range g.N {
				if all[s][v] >= 0 {
					want = append(want, v)
				}
			}
			if l := impl.ReachedFrom(g, s); !slices.Equal(l, want) {
				t.Fatalf("%v from %d: %v", g, s, l)
			}
		}
	}
}

func TestPartsAsWritten(t *testing.T) {
	for i, c := range []struct {
		g    impl.Graph
		want []int64
	}{
		{impl.Graph{N: 1}, []int64{0}},
		{impl.Graph{N: 4}, []int64{0, 1, 2, 3}},
		// There, but not back.
		{withArcs(2, arc(0, 1, 1)), []int64{0, 1}},
		{withArcs(2, arc(1, 0, 1)), []int64{0, 1}},
		{withArcs(2, arc(0, 1, 1), arc(1, 0, 1000)), []int64{0, 0}},
		{chain(5, 1), []int64{0, 1, 2, 3, 4}},
		{withArcs(5, append(chain(5, 1).Arcs, arc(4, 0, 1))...), []int64{0, 0, 0, 0, 0}},
		{withArcs(5, append(chain(5, 1).Arcs, arc(4, 1, 1))...), []int64{0, 1, 1, 1, 1}},
		{withArcs(4, arc(0, 1, 1), arc(1, 2, 1), arc(2, 0, 1), arc(2, 3, 1)), []int64{0, 0, 0, 3}},
		// Two rings that share a node are one part, two that an arc leads between are two.
		{withArcs(5, arc(0, 2, 1), arc(1, 2, 1), arc(2, 0, 1), arc(2, 1, 1), arc(3, 4, 1), arc(4, 3, 1)), []int64{0, 0, 0, 3, 3}},
		{withArcs(4, arc(0, 2, 1), arc(1, 3, 1), arc(2, 0, 1), arc(2, 1, 1), arc(3, 1, 1)), []int64{0, 1, 0, 1}},
		{withArcs(4, arc(0, 2, 1), arc(1, 2, 1), arc(1, 3, 1), arc(2, 0, 1), arc(3, 1, 1)), []int64{0, 1, 0, 1}},
		// From one part two are reached that do not reach each other, and the other way round.
		{withArcs(4, arc(0, 1, 1), arc(0, 2, 1), arc(0, 3, 1), arc(3, 0, 1)), []int64{0, 1, 2, 0}},
		{withArcs(4, arc(0, 3, 1), arc(1, 0, 1), arc(2, 0, 1), arc(3, 0, 1)), []int64{0, 1, 2, 0}},
		{ringAround(), []int64{0, 1, 2, 1, 1, 0, 1}},
		// With a way back from within the ring is one with what is in it.
		{withArcs(7, append(ringAround().Arcs[:8:8], arc(5, 0, 1), arc(5, 6, 1), arc(6, 4, 1))...), []int64{0, 0, 2, 0, 0, 0, 0}},
		{firstArcs(12, 132), make([]int64, 12)},
		{chain(impl.MaxNodes, impl.MaxW), allNodes(impl.MaxNodes)},
	} {
		if l := impl.PartsOf(c.g); !slices.Equal(l, c.want) {
			t.Errorf("%d: %v", i, l)
		}
		if l := impl.PartsOf(impl.Reversed(c.g)); !slices.Equal(l, c.want) {
			t.Errorf("%d, turned: %v", i, l)
		}
	}
}

func TestTwoNodesAreInOnePartJustWhereEachIsReachedFromTheOther(t *testing.T) {
	for _, g := range append(someGraphs(), tiedGraphs()...) {
		parts := impl.PartsOf(g)
		if !slices.Equal(parts, partsByHand(allDistances(g))) {
			t.Fatalf("%v: %v", g, parts)
		}
		for u := range g.N {
			from := impl.ReachedFrom(g, u)
			for v := range g.N {
				both := slices.Contains(from, v) && slices.Contains(impl.ReachedFrom(g, v), u)
				if both != (parts[u] == parts[v]) || parts[v] > v {
					t.Fatalf("%v, %d and %d: %v", g, u, v, parts)
				}
			}
		}
	}
}

func TestCondensedAsWritten(t *testing.T) {
	for i, c := range []struct {
		g      impl.Graph
		want   impl.Graph
		firsts []int64
	}{
		{impl.Graph{N: 1}, impl.Graph{N: 1}, []int64{0}},
		{impl.Graph{N: 3}, impl.Graph{N: 3}, []int64{0, 1, 2}},
		{withArcs(2, arc(0, 1, 1), arc(1, 0, 1)), impl.Graph{N: 1}, []int64{0}},
		{firstArcs(12, 132), impl.Graph{N: 1}, []int64{0}},
		// Condensed already.
		{chain(impl.MaxNodes, impl.MaxW), chain(impl.MaxNodes, impl.MaxW), allNodes(impl.MaxNodes)},
		{withArcs(3, arc(0, 1, 5), arc(2, 0, 3), arc(2, 1, 4)), withArcs(3, arc(0, 1, 5), arc(2, 0, 3), arc(2, 1, 4)), []int64{0, 1, 2}},
		// Of more than one arc the lightest: it is first, last, between both, and all are as heavy.
		{withArcs(4, arc(0, 1, 1), arc(0, 2, 6), arc(1, 0, 1), arc(1, 2, 7), arc(2, 3, 1), arc(3, 2, 1)), withArcs(2, arc(0, 1, 6)), []int64{0, 2}},
		{withArcs(4, arc(0, 1, 1), arc(0, 2, 7), arc(1, 0, 1), arc(1, 2, 6), arc(2, 3, 1), arc(3, 2, 1)), withArcs(2, arc(0, 1, 6)), []int64{0, 2}},
		{withArcs(4, arc(0, 1, 1), arc(0, 2, 6), arc(0, 3, 7), arc(1, 0, 1), arc(2, 3, 1), arc(3, 2, 1)), withArcs(2, arc(0, 1, 6)), []int64{0, 2}},
		{withArcs(4, arc(0, 1, 1), arc(0, 2, 7), arc(0, 3, 6), arc(1, 0, 1), arc(2, 3, 1), arc(3, 2, 1)), withArcs(2, arc(0, 1, 6)), []int64{0, 2}},
		{withArcs(4, arc(0, 1, 1), arc(0, 2, 7), arc(0, 3, 5), arc(1, 0, 1), arc(1, 2, 6), arc(2, 3, 1), arc(3, 2, 1)), withArcs(2, arc(0, 1, 5)), []int64{0, 2}},
		{withArcs(4, arc(0, 1, 1), arc(0, 2, 7), arc(0, 3, 7), arc(1, 0, 1), arc(1, 2, 7), arc(2, 3, 1), arc(3, 2, 1)), withArcs(2, arc(0, 1, 7)), []int64{0, 2}},
		// The arc is the lightest, not the nearest way by another part.
		{withArcs(3, arc(0, 1, 1), arc(0, 2, 9), arc(1, 2, 1)), withArcs(3, arc(0, 1, 1), arc(0, 2, 9), arc(1, 2, 1)), []int64{0, 1, 2}},
		// The nodes behind a part of more than one have other numbers, and arcs another order.
		{withArcs(5, arc(0, 3, 1), arc(1, 2, 4), arc(2, 0, 5), arc(3, 0, 1), arc(3, 4, 2), arc(4, 1, 3)), impl.Graph{N: 1}, []int64{0}},
		{withArcs(5, arc(0, 3, 1), arc(0, 4, 9), arc(1, 2, 4), arc(1, 3, 8), arc(3, 0, 1), arc(3, 2, 2), arc(4, 2, 3)), withArcs(4, arc(0, 2, 2), arc(0, 3, 9), arc(1, 0, 8), arc(1, 2, 4), arc(3, 2, 3)), []int64{0, 1, 2, 4}},
		{ringAround(), withArcs(3, arc(0, 2, 8), arc(1, 0, 5), arc(1, 2, 9)), []int64{0, 1, 2}},
	} {
		h, firsts, ok := impl.Condensed(c.g)
		if !ok || !sameGraph(h, c.want) || !slices.Equal(firsts, c.firsts) {
			t.Errorf("%d: %v %v %v", i, h, firsts, ok)
		}
	}
}

func TestCondensedOfAllGraphs(t *testing.T) {
	for _, g := range append(someGraphs(), tiedGraphs()...) {
		parts := partsByHand(allDistances(g))
		want, least := condensedByHand(g, parts)
		h, firsts, ok := impl.Condensed(g)
		if !ok || !impl.GraphOk(h) || !sameGraph(h, want) || !slices.Equal(firsts, least) {
			t.Fatalf("%v: %v %v %v", g, h, firsts, ok)
		}
		// Condensed already, each node is a part.
		if !slices.Equal(impl.PartsOf(h), allNodes(h.N)) {
			t.Fatalf("%v: %v has the parts %v", g, h, impl.PartsOf(h))
		}
		again, all, ok := impl.Condensed(h)
		if !ok || !sameGraph(again, h) || !slices.Equal(all, allNodes(h.N)) {
			t.Fatalf("%v: %v and then %v %v %v", g, h, again, all, ok)
		}
		for from, u := range firsts {
			for to, v := range firsts {
				if slices.Contains(impl.ReachedFrom(h, int64(from)), int64(to)) != slices.Contains(impl.ReachedFrom(g, u), v) {
					t.Fatalf("%v: %v, from %d to %d", g, h, from, to)
				}
			}
		}
	}
}

func TestPartsOfWrongGraphs(t *testing.T) {
	for _, x := range wrongGraphs() {
		if l := impl.PartsOf(x.g); len(l) != 0 {
			t.Errorf("%s: %v", x.name, l)
		}
		if h, firsts, ok := impl.Condensed(x.g); ok || !zeroGraph(h) || len(firsts) != 0 {
			t.Errorf("%s: %v %v %v", x.name, h, firsts, ok)
		}
		for _, s := range []int64{-1, 0, 1, 2} {
			if l := impl.ReachedFrom(x.g, s); len(l) != 0 {
				t.Errorf("%s from %d: %v", x.name, s, l)
			}
		}
	}
}

func TestWhatIsReachedFromNoNode(t *testing.T) {
	for _, g := range []impl.Graph{{N: 1}, chain(5, 1), firstArcs(12, 132), firstArcs(impl.MaxNodes, impl.MaxArcs)} {
		for _, x := range noNodes(g) {
			if l := impl.ReachedFrom(g, x); len(l) != 0 {
				t.Errorf("%v from %d: %v", g, x, l)
			}
		}
	}
}

func TestPartAnswersAreNewMemory(t *testing.T) {
	for _, g := range []impl.Graph{chain(5, 4), ringAround(), {N: 3}} {
		arcs, unchanged := guarded(t, g.Arcs, arc(0, 1, 1))
		g.Arcs = arcs
		want, _ := condensedByHand(g, impl.PartsOf(g))
		holdTwice(t, func() [][]int64 {
			h, firsts, ok := impl.Condensed(g)
			if !ok || !sameGraph(h, want) {
				t.Error(h, ok)
			}
			spoil(h.Arcs, arc(-9, -9, -9))
			return [][]int64{firsts, impl.PartsOf(g), impl.ReachedFrom(g, 0), impl.ReachedFrom(g, g.N-1)}
		})
		unchanged()
	}
}
