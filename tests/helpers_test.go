package tests

import (
	"math"
	"slices"
	"testing"

	"loop.example/g00546/impl"
)

// extremes are numbers that are no node, no weight and no number of nodes of any graph.
var extremes = []int64{math.MinInt64, math.MinInt64 + 1, -1 << 32, -1, 1 << 32, math.MaxInt64 - 1, math.MaxInt64}

// numbers tells the same sequence for the same seed.
type numbers struct {
	state uint64
}

func (n *numbers) below(limit int) int {
	n.state = n.state*6364136223846793005 + 1442695040888963407
	return int(n.state >> 33 % uint64(limit))
}

// guarded is a list that equals l and has spare room behind it, and a function
// that fails the test when the list or the room is not what it was.
func guarded[T comparable](t *testing.T, l []T, spare T) ([]T, func()) {
	t.Helper()
	whole := append(slices.Clone(l), spare, spare, spare)
	was := slices.Clone(whole)
	return whole[:len(l):len(whole)], func() {
		t.Helper()
		if !slices.Equal(whole, was) {
			t.Errorf("an argument was %v and is %v", was, whole)
		}
	}
}

// spoil writes over all of a list and the room behind it.
func spoil[T any](l []T, x T) {
	l = l[:cap(l)]
	for i := range l {
		l[i] = x
	}
}

// holdTwice spoils the answers and asks again: nothing that is spoilt may show in what comes then.
func holdTwice(t *testing.T, answers func() [][]int64) {
	t.Helper()
	first := answers()
	var was [][]int64
	for _, l := range first {
		was = append(was, slices.Clone(l))
	}
	for i, l := range first {
		spoil(l, -99)
		for j := i + 1; j < len(first); j++ {
			if !slices.Equal(first[j], was[j]) {
				t.Errorf("answers %d and %d share memory", i, j)
			}
		}
	}
	for i, l := range answers() {
		if !slices.Equal(l, was[i]) {
			t.Errorf("answer %d was %v and is %v", i, was[i], l)
		}
	}
}

func sameGraph(a impl.Graph, b impl.Graph) bool {
	return a.N == b.N && slices.Equal(a.Arcs, b.Arcs)
}

func zeroGraph(g impl.Graph) bool {
	return g.N == 0 && len(g.Arcs) == 0
}

// firstArcs is a right graph with just so many arcs, if n nodes have so many.
func firstArcs(n int64, count int) impl.Graph {
	g := impl.Graph{N: n}
	for u := range n {
		for v := range n {
			if u != v && len(g.Arcs) < count {
				g.Arcs = append(g.Arcs, impl.Arc{From: u, To: v, W: 1 + (u*n+v)%impl.MaxW})
			}
		}
	}
	return g
}

// someGraphs are right ones of all sizes, the least and the greatest among them.
func someGraphs() []impl.Graph {
	list := []impl.Graph{
		{N: 1},
		{N: impl.MaxNodes},
		{N: 2, Arcs: []impl.Arc{{From: 0, To: 1, W: 1}, {From: 1, To: 0, W: impl.MaxW}}},
		firstArcs(impl.MaxNodes, impl.MaxArcs),
		firstArcs(impl.MaxNodes, impl.MaxArcs-1),
		firstArcs(12, 132),
	}
	r := &numbers{state: 1}
	for range 40 {
		list = append(list, randomGraph(r))
	}
	return list
}

func randomGraph(r *numbers) impl.Graph {
	g := impl.Graph{N: int64(1 + r.below(impl.MaxNodes))}
	sparse := 1 + r.below(20)
	for u := range g.N {
		for v := range g.N {
			if u != v && r.below(sparse) == 0 && len(g.Arcs) < impl.MaxArcs {
				g.Arcs = append(g.Arcs, impl.Arc{From: u, To: v, W: int64(1 + r.below(impl.MaxW))})
			}
		}
	}
	return g
}

type namedGraph struct {
	name string
	g    impl.Graph
}

func arc(from int64, to int64, w int64) impl.Arc {
	return impl.Arc{From: from, To: to, W: w}
}

func withArcs(n int64, arcs ...impl.Arc) impl.Graph {
	return impl.Graph{N: n, Arcs: arcs}
}

// wrongGraphs has one for each reason for which a graph is not right.
func wrongGraphs() []namedGraph {
	list := []namedGraph{
		{"zero", impl.Graph{}},
		{"no nodes but arcs", withArcs(0, impl.Arc{From: 0, To: 1, W: 1})},
		{"25 nodes", impl.Graph{N: impl.MaxNodes + 1}},
		{"25 nodes and an arc", withArcs(impl.MaxNodes+1, impl.Arc{From: 0, To: 1, W: 1})},
		{"151 arcs", firstArcs(impl.MaxNodes, impl.MaxArcs+1)},
		{"weight 0", withArcs(3, impl.Arc{From: 0, To: 1, W: 0})},
		{"weight 1001", withArcs(3, impl.Arc{From: 0, To: 1, W: impl.MaxW + 1})},
		{"second weight 0", withArcs(3, impl.Arc{From: 0, To: 1, W: 5}, impl.Arc{From: 0, To: 2, W: 0})},
		{"from N", withArcs(3, impl.Arc{From: 3, To: 1, W: 1})},
		{"to N", withArcs(3, impl.Arc{From: 0, To: 3, W: 1})},
		{"one node twice", withArcs(3, impl.Arc{From: 1, To: 1, W: 1})},
		{"from falls", withArcs(3, impl.Arc{From: 1, To: 2, W: 1}, impl.Arc{From: 0, To: 1, W: 1})},
		{"to falls", withArcs(3, impl.Arc{From: 0, To: 2, W: 1}, impl.Arc{From: 0, To: 1, W: 1})},
		{"by to, then from", withArcs(3, impl.Arc{From: 1, To: 0, W: 1}, impl.Arc{From: 0, To: 2, W: 1})},
		{"same ends", withArcs(3, impl.Arc{From: 0, To: 1, W: 1}, impl.Arc{From: 0, To: 1, W: 2})},
		{"same arc", withArcs(3, impl.Arc{From: 0, To: 1, W: 1}, impl.Arc{From: 0, To: 1, W: 1})},
		{"last out of order", withArcs(3, impl.Arc{From: 0, To: 1, W: 1}, impl.Arc{From: 1, To: 0, W: 1}, impl.Arc{From: 0, To: 2, W: 1})},
	}
	for _, x := range extremes {
		list = append(list,
			namedGraph{"extreme N", withArcs(x, impl.Arc{From: 0, To: 1, W: 1})},
			namedGraph{"extreme from", withArcs(3, impl.Arc{From: x, To: 1, W: 1})},
			namedGraph{"extreme to", withArcs(3, impl.Arc{From: 0, To: x, W: 1})},
			namedGraph{"extreme weight", withArcs(3, impl.Arc{From: 0, To: 1, W: x})})
	}
	return list
}
