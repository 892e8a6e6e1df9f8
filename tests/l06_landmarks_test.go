package tests

import (
	"math"
	"slices"
	"testing"

	"loop.example/g00546/impl"
)

func rows(lists ...[]int64) []impl.Row {
	var list []impl.Row
	for _, l := range lists {
		list = append(list, impl.Row{D: l})
	}
	return list
}

func sameRows(a []impl.Row, b []impl.Row) bool {
	return slices.EqualFunc(a, b, func(x impl.Row, y impl.Row) bool { return slices.Equal(x.D, y.D) })
}

func sameMarks(a impl.Marks, b impl.Marks) bool {
	return slices.Equal(a.Nodes, b.Nodes) && sameRows(a.From, b.From) && sameRows(a.To, b.To)
}

func zeroMarks(m impl.Marks) bool {
	return len(m.Nodes) == 0 && len(m.From) == 0 && len(m.To) == 0
}

func cloneRows(l []impl.Row) []impl.Row {
	var list []impl.Row
	for _, row := range l {
		list = append(list, impl.Row{D: slices.Clone(row.D)})
	}
	return list
}

func cloneMarks(m impl.Marks) impl.Marks {
	return impl.Marks{Nodes: slices.Clone(m.Nodes), From: cloneRows(m.From), To: cloneRows(m.To)}
}

// altered is m as change makes it; m stays as it is.
func altered(m impl.Marks, change func(m *impl.Marks)) impl.Marks {
	m = cloneMarks(m)
	change(&m)
	return m
}

// marksByHand are those of nodes when all are so far apart.
func marksByHand(all [][]int64, nodes []int64) impl.Marks {
	m := impl.Marks{Nodes: nodes}
	for _, x := range nodes {
		var from, to []int64
		for v := range all {
			from = append(from, all[x][v])
			to = append(to, all[v][x])
		}
		m.From = append(m.From, impl.Row{D: from})
		m.To = append(m.To, impl.Row{D: to})
	}
	return m
}

// boundByHand asks for marks that are as Bound wants them.
func boundByHand(m impl.Marks, u int64, v int64) int64 {
	most := int64(0)
	for i := range m.Nodes {
		from, to := m.From[i].D, m.To[i].D
		if from[u] != -1 && from[v] != -1 {
			most = max(most, from[v]-from[u])
		}
		if to[u] != -1 && to[v] != -1 {
			most = max(most, to[u]-to[v])
		}
	}
	return most
}

// someNodes are unlike nodes of g in no order, no more than there are.
func someNodes(r *numbers, g impl.Graph, count int) []int64 {
	var list []int64
	for v := range g.N {
		list = slices.Insert(list, r.below(len(list)+1), v)
	}
	return list[:min(count, len(list))]
}

// marksSets are lists of nodes of g that may be marks: none, one, and up to MaxMarks.
func marksSets(g impl.Graph, seed int) [][]int64 {
	r := &numbers{state: uint64(seed)}
	list := [][]int64{nil, {}, {0}, {g.N - 1}}
	for count := 1; count <= impl.MaxMarks; count++ {
		list = append(list, someNodes(r, g, count))
	}
	return list
}

func TestLimitOfMarks(t *testing.T) {
	if impl.MaxMarks != 5 {
		t.Error(impl.MaxMarks)
	}
}

func TestMarksAsWritten(t *testing.T) {
	g := withArcs(4, impl.Arc{From: 0, To: 1, W: 7}, impl.Arc{From: 1, To: 0, W: 5}, impl.Arc{From: 1, To: 2, W: 1000})
	for i, c := range []struct {
		g    impl.Graph
		want impl.Marks
	}{
		{g, impl.Marks{}},
		{g, impl.Marks{Nodes: []int64{0}, From: rows([]int64{0, 7, 1007, -1}), To: rows([]int64{0, 5, -1, -1})}},
		// A mark that is not reached from anywhere, nor leads anywhere.
		{g, impl.Marks{Nodes: []int64{3}, From: rows([]int64{-1, -1, -1, 0}), To: rows([]int64{-1, -1, -1, 0})}},
		{g, impl.Marks{Nodes: []int64{2, 1}, From: rows([]int64{-1, -1, 0, -1}, []int64{5, 0, 1000, -1}), To: rows([]int64{1007, 1000, 0, -1}, []int64{7, 0, -1, -1})}},
		{impl.Graph{N: 1}, impl.Marks{Nodes: []int64{0}, From: rows([]int64{0}), To: rows([]int64{0})}},
		{impl.Graph{N: 1}, impl.Marks{}},
	} {
		m, ok := impl.MarksOf(c.g, c.want.Nodes)
		if !ok || !sameMarks(m, c.want) {
			t.Errorf("%d: %v %v", i, m, ok)
		}
		if !impl.MarksOk(c.g, c.want) {
			t.Errorf("%d: not right", i)
		}
	}
}

func TestMarksOfAllGraphs(t *testing.T) {
	for i, g := range append(someGraphs(), tiedGraphs()...) {
		all := allDistances(g)
		turned := impl.Reversed(g)
		for _, nodes := range marksSets(g, i) {
			m, ok := impl.MarksOf(g, nodes)
			if !ok || !sameMarks(m, marksByHand(all, nodes)) || !impl.MarksOk(g, m) {
				t.Fatalf("%v %v: %v %v", g, nodes, m, ok)
			}
			back, ok := impl.MarksOf(turned, nodes)
			if !ok || !sameMarks(back, impl.Marks{Nodes: nodes, From: m.To, To: m.From}) {
				t.Fatalf("%v %v, turned: %v %v", g, nodes, back, ok)
			}
		}
	}
}

// unfitNodes are lists of which one is no node of g or two are alike.
func unfitNodes(g impl.Graph) [][]int64 {
	list := [][]int64{{0, 0}, {g.N - 1, 0, g.N - 1}, {0, 0, 0, 0, 0, 0}, make([]int64, 100000)}
	for _, x := range noNodes(g) {
		list = append(list, []int64{x}, []int64{0, x}, []int64{x, 0}, []int64{x, x})
	}
	return list
}

// noMarks holds that these nodes are no marks of g, and that nothing is told by such ones.
func noMarks(t *testing.T, name string, g impl.Graph, nodes []int64) {
	t.Helper()
	if m, ok := impl.MarksOf(g, nodes); ok || !zeroMarks(m) {
		t.Errorf("%s %v: %v %v", name, nodes, m, ok)
	}
	m := impl.Marks{Nodes: nodes}
	for range nodes {
		m.From = append(m.From, impl.Row{D: make([]int64, max(0, min(g.N, impl.MaxNodes)))})
		m.To = append(m.To, impl.Row{D: make([]int64, max(0, min(g.N, impl.MaxNodes)))})
	}
	for _, m := range []impl.Marks{m, {Nodes: nodes}} {
		if impl.MarksOk(g, m) {
			t.Errorf("%s %v: right", name, nodes)
		}
		if d := impl.QueryMarks(g, m, 0, 0); d != -1 {
			t.Errorf("%s %v: it is %d", name, nodes, d)
		}
	}
}

func TestMarksOfRefusals(t *testing.T) {
	for _, g := range []impl.Graph{{N: 1}, chain(5, 1), chain(6, 1), firstArcs(12, 132), firstArcs(impl.MaxNodes, impl.MaxArcs)} {
		for _, nodes := range unfitNodes(g) {
			noMarks(t, "unfit", g, nodes)
		}
	}
	for _, nodes := range [][]int64{{0, 1, 2, 3, 4, 5}, {11, 3, 9, 1, 0, 2}, {0, 1, 2, 3, 4, 5, 6}} {
		noMarks(t, "too many", firstArcs(12, 132), nodes)
	}
	if m, ok := impl.MarksOf(firstArcs(12, 132), []int64{11, 3, 9, 1, 0}); !ok || len(m.Nodes) != 5 || len(m.From) != 5 || len(m.To) != 5 {
		t.Error("MaxMarks", m, ok)
	}
	for _, x := range wrongGraphs() {
		for _, nodes := range [][]int64{nil, {}, {0}, {1, 0}, {0, 1, 2}, {-1}} {
			noMarks(t, x.name, x.g, nodes)
		}
	}
}

func TestMarksOkOfOtherNumbers(t *testing.T) {
	for i, g := range append(someGraphs()[:12], tiedGraphs()[:30]...) {
		nodes := someNodes(&numbers{state: uint64(i)}, g, 3)
		m, _ := impl.MarksOf(g, nodes)
		for i := range nodes {
			for v := range g.N {
				for _, by := range []int64{-1, 1, far, math.MaxInt64} {
					from := altered(m, func(m *impl.Marks) { m.From[i].D[v] += by })
					to := altered(m, func(m *impl.Marks) { m.To[i].D[v] += by })
					for _, other := range []impl.Marks{from, to} {
						if impl.MarksOk(g, other) || impl.QueryMarks(g, other, v, g.N-1) != -1 {
							t.Fatalf("%v: %v is right", g, other)
						}
					}
				}
			}
		}
	}
}

// unlikeMarks are such as m is not any more, but for one thing each like it; m has two marks at least.
func unlikeMarks(m impl.Marks) []namedMarks {
	return []namedMarks{
		{"no nodes", altered(m, func(m *impl.Marks) { m.Nodes = nil })},
		{"no From", altered(m, func(m *impl.Marks) { m.From = nil })},
		{"no To", altered(m, func(m *impl.Marks) { m.To = nil })},
		{"a node too few", altered(m, func(m *impl.Marks) { m.Nodes = m.Nodes[1:] })},
		{"a row too few in From", altered(m, func(m *impl.Marks) { m.From = m.From[:len(m.From)-1] })},
		{"a row too few in To", altered(m, func(m *impl.Marks) { m.To = m.To[:len(m.To)-1] })},
		{"a row too many in From", altered(m, func(m *impl.Marks) { m.From = append(m.From, m.From[0]) })},
		{"a row too many in To", altered(m, func(m *impl.Marks) { m.To = append(m.To, m.To[0]) })},
		{"an empty row too many in From", altered(m, func(m *impl.Marks) { m.From = append(m.From, impl.Row{}) })},
		{"an empty row too many in To", altered(m, func(m *impl.Marks) { m.To = append(m.To, impl.Row{}) })},
		{"From is short at first", altered(m, func(m *impl.Marks) { m.From[0].D = m.From[0].D[1:] })},
		{"To is short at first", altered(m, func(m *impl.Marks) { m.To[0].D = m.To[0].D[1:] })},
		{"From is short at last", altered(m, func(m *impl.Marks) { m.From[1].D = m.From[1].D[:1] })},
		{"To is short at last", altered(m, func(m *impl.Marks) { m.To[1].D = m.To[1].D[:1] })},
		{"From is long at first", altered(m, func(m *impl.Marks) { m.From[0].D = append(m.From[0].D, 5) })},
		{"To is long at first", altered(m, func(m *impl.Marks) { m.To[0].D = append(m.To[0].D, 5) })},
		{"From is long at last", altered(m, func(m *impl.Marks) { m.From[1].D = append(m.From[1].D, 5) })},
		{"To is long at last", altered(m, func(m *impl.Marks) { m.To[1].D = append(m.To[1].D, 5) })},
		{"From is empty at last", altered(m, func(m *impl.Marks) { m.From[1].D = nil })},
		{"To is empty at last", altered(m, func(m *impl.Marks) { m.To[1].D = nil })},
	}
}

type namedMarks struct {
	name string
	m    impl.Marks
}

func TestMarksOkOfOtherForms(t *testing.T) {
	g := firstArcs(6, 30)
	m, _ := impl.MarksOf(g, []int64{4, 1})
	list := append(unlikeMarks(m),
		namedMarks{"other nodes", altered(m, func(m *impl.Marks) { m.Nodes[0] = 2 })},
		namedMarks{"changed nodes", altered(m, func(m *impl.Marks) { m.Nodes[0], m.Nodes[1] = 1, 4 })},
		namedMarks{"changed kinds", altered(m, func(m *impl.Marks) { m.From, m.To = m.To, m.From })},
		namedMarks{"rows without nodes", altered(m, func(m *impl.Marks) { m.Nodes = nil })},
		namedMarks{"empty rows without nodes", impl.Marks{From: rows(nil), To: rows(nil)}})
	for _, x := range list {
		if impl.MarksOk(g, x.m) {
			t.Errorf("%s: right", x.name)
		}
		for _, p := range [][2]int64{{0, 0}, {0, 5}, {5, 0}} {
			if d := impl.QueryMarks(g, x.m, p[0], p[1]); d != -1 {
				t.Errorf("%s: %v is %d", x.name, p, d)
			}
		}
	}
	if impl.MarksOk(chain(6, 1), m) || impl.MarksOk(firstArcs(7, 42), m) || !impl.MarksOk(g, m) {
		t.Error("of another graph")
	}
	if !impl.MarksOk(g, impl.Marks{}) || !impl.MarksOk(g, impl.Marks{Nodes: []int64{}, From: []impl.Row{}, To: []impl.Row{}}) {
		t.Error("no marks are right")
	}
}

func TestBoundsAsWritten(t *testing.T) {
	one := impl.Marks{Nodes: []int64{0}, From: rows([]int64{0, 2, 9, -1}), To: rows([]int64{0, 7, 3, -1})}
	two := impl.Marks{Nodes: []int64{0, 1}, From: rows([]int64{0, 2, 9}, []int64{-1, 0, 40}), To: rows([]int64{0, 7, 3}, []int64{100, 30, -1})}
	for i, c := range []struct {
		m          impl.Marks
		u, v, want int64
	}{
		{one, 1, 2, 7}, // 9 - 2 from it, 7 - 3 to it
		{one, 2, 1, 0}, // 2 - 9 from it, 3 - 7 to it
		{one, 0, 2, 9}, {one, 2, 0, 3}, {one, 0, 1, 2}, {one, 1, 0, 7},
		{one, 0, 0, 0}, {one, 2, 2, 0}, {one, 3, 3, 0}, {one, 0, 3, 0}, {one, 3, 0, 0}, {one, 3, 2, 0}, {one, 2, 3, 0},
		{two, 1, 2, 40}, {two, 0, 2, 9}, {two, 0, 1, 70}, {two, 1, 0, 7}, {two, 2, 1, 0}, {two, 2, 0, 3},
		// What is just not there is no number to go by, whichever of the two it is.
		{impl.Marks{Nodes: []int64{0}, From: rows([]int64{-1, 5}), To: rows([]int64{5, -1})}, 0, 1, 0},
		{impl.Marks{Nodes: []int64{0}, From: rows([]int64{5, -1}), To: rows([]int64{-1, 5})}, 0, 1, 0},
		{impl.Marks{Nodes: []int64{0}, From: rows([]int64{-1, 5}), To: rows([]int64{5, 1})}, 0, 1, 4},
		{impl.Marks{Nodes: []int64{0}, From: rows([]int64{1, 5}), To: rows([]int64{5, -1})}, 0, 1, 4},
		// The greatest of all marks, whichever place it has.
		{impl.Marks{Nodes: []int64{0, 1, 2}, From: rows([]int64{0, 3}, []int64{0, 8}, []int64{0, 5}), To: rows([]int64{0, 0}, []int64{0, 0}, []int64{0, 0})}, 0, 1, 8},
		{impl.Marks{Nodes: []int64{0, 1, 2}, From: rows([]int64{0, 0}, []int64{0, 0}, []int64{0, 0}), To: rows([]int64{9, 0}, []int64{3, 0}, []int64{4, 0})}, 0, 1, 9},
		{impl.Marks{Nodes: []int64{0, 1, 2}, From: rows([]int64{0, 0}, []int64{0, 0}, []int64{0, 0}), To: rows([]int64{1, 0}, []int64{3, 0}, []int64{4, 0})}, 0, 1, 4},
		// A row of one place.
		{impl.Marks{Nodes: []int64{0}, From: rows([]int64{17}), To: rows([]int64{3})}, 0, 0, 0},
		// The numbers of the nodes are not looked at.
		{impl.Marks{Nodes: []int64{math.MinInt64, math.MinInt64}, From: rows([]int64{0, 3}, []int64{0, 3}), To: rows([]int64{0, 0}, []int64{0, 0})}, 0, 1, 3},
	} {
		if n := impl.Bound(c.m, c.u, c.v); n != c.want {
			t.Errorf("%d: %d", i, n)
		}
	}
}

// wideMarks are so many marks with rows of so many places, by which it is 5 from 0 to 1.
func wideMarks(marks int, places int) impl.Marks {
	var m impl.Marks
	for i := range marks {
		from := make([]int64, places)
		from[1] = 5
		m.Nodes = append(m.Nodes, int64(i))
		m.From = append(m.From, impl.Row{D: from})
		m.To = append(m.To, impl.Row{D: make([]int64, places)})
	}
	return m
}

func TestBoundsAtTheLimits(t *testing.T) {
	for _, c := range []struct {
		marks, places int
		want          int64
	}{
		{1, 2, 5}, {0, 2, 0}, {impl.MaxMarks, 2, 5}, {impl.MaxMarks + 1, 2, 0}, {100, 2, 0},
		{1, impl.MaxNodes - 1, 5}, {1, impl.MaxNodes, 5}, {1, impl.MaxNodes + 1, 0}, {1, 10000, 0},
		{impl.MaxMarks, impl.MaxNodes, 5}, {impl.MaxMarks + 1, impl.MaxNodes, 0}, {impl.MaxMarks, impl.MaxNodes + 1, 0},
	} {
		if n := impl.Bound(wideMarks(c.marks, c.places), 0, 1); n != c.want {
			t.Errorf("%d marks, %d places: %d", c.marks, c.places, n)
		}
	}
	m := wideMarks(1, impl.MaxNodes)
	m.From[0].D[impl.MaxNodes-1] = 6
	if n := impl.Bound(m, 0, impl.MaxNodes-1); n != 6 {
		t.Error("the last place", n)
	}
	if n := impl.Bound(m, impl.MaxNodes-1, impl.MaxNodes); n != 0 {
		t.Error("behind the last place", n)
	}
}

func TestNumbersOfBounds(t *testing.T) {
	right := map[int64]bool{-1: true, 0: true, 1: true, far - 1: true, far: true}
	list := append([]int64{-1, 0, 1, far - 1, far, -2, -far, far + 1, 2 * far}, extremes...)
	for _, x := range list {
		want := int64(0)
		if right[x] {
			want = 5
		}
		// The number is of a node and a mark that are not asked about.
		for i := range 2 {
			m := altered(wideMarks(2, 3), func(m *impl.Marks) { m.From[i].D[2] = x })
			if n := impl.Bound(m, 0, 1); n != want {
				t.Errorf("%d in From: %d", x, n)
			}
			m = altered(wideMarks(2, 3), func(m *impl.Marks) { m.To[i].D[2] = x })
			if n := impl.Bound(m, 0, 1); n != want {
				t.Errorf("%d in To: %d", x, n)
			}
		}
	}
	m := impl.Marks{Nodes: []int64{0}, From: rows([]int64{0, far}), To: rows([]int64{-1, -1})}
	if n := impl.Bound(m, 0, 1); n != far {
		t.Error("far", n)
	}
}

func TestBoundRefusals(t *testing.T) {
	m := wideMarks(2, 4)
	if n := impl.Bound(m, 0, 1); n != 5 {
		t.Fatal(n)
	}
	for _, x := range unlikeMarks(m) {
		if n := impl.Bound(x.m, 0, 1); n != 0 {
			t.Errorf("%s: %d", x.name, n)
		}
	}
	if n := impl.Bound(impl.Marks{}, 0, 0); n != 0 {
		t.Error("zero", n)
	}
	if n := impl.Bound(impl.Marks{Nodes: []int64{0}, From: rows(nil), To: rows(nil)}, 0, 0); n != 0 {
		t.Error("rows of no places", n)
	}
	for _, x := range append([]int64{-1, -2, 4, 5, impl.MaxNodes - 1, impl.MaxNodes, impl.MaxNodes + 1}, extremes...) {
		for _, p := range [][2]int64{{x, 1}, {0, x}, {x, x}} {
			if n := impl.Bound(m, p[0], p[1]); n != 0 {
				t.Errorf("%v: %d", p, n)
			}
		}
	}
}

// Rows of any numbers are as Bound wants them, whether or not there is such a graph.
func TestBoundsOfAnyNumbers(t *testing.T) {
	r := &numbers{state: 6}
	for range 200 {
		var m impl.Marks
		places := 1 + r.below(impl.MaxNodes)
		for range 1 + r.below(impl.MaxMarks) {
			var from, to []int64
			for range places {
				from = append(from, int64(r.below(12)-1)*int64(1+r.below(far/10)))
				to = append(to, int64(r.below(12)-1)*int64(1+r.below(far/10)))
			}
			for i := range places {
				from[i], to[i] = min(far, max(-1, from[i])), min(far, max(-1, to[i]))
			}
			m.Nodes = append(m.Nodes, int64(r.below(impl.MaxNodes)))
			m.From = append(m.From, impl.Row{D: from})
			m.To = append(m.To, impl.Row{D: to})
		}
		for u := range int64(places) {
			for v := range int64(places) {
				if n := impl.Bound(m, u, v); n != boundByHand(m, u, v) {
					t.Fatalf("%v: %d to %d: %d", m, u, v, n)
				}
			}
		}
	}
}

func TestABoundOfRightMarksIsNoMoreThanItIsFar(t *testing.T) {
	for i, g := range append(someGraphs(), tiedGraphs()...) {
		all := allDistances(g)
		for _, nodes := range marksSets(g, i) {
			m, _ := impl.MarksOf(g, nodes)
			turned, _ := impl.MarksOf(impl.Reversed(g), nodes)
			for u := range g.N {
				for v := range g.N {
					n := impl.Bound(m, u, v)
					if n < 0 || n != boundByHand(m, u, v) || all[u][v] >= 0 && n > all[u][v] {
						t.Fatalf("%v %v: %d to %d: %d", g, nodes, u, v, n)
					}
					if back := impl.Bound(turned, v, u); back != n {
						t.Fatalf("%v %v: %d to %d: %d, turned %d", g, nodes, u, v, n, back)
					}
				}
			}
			for _, x := range nodes {
				for v := range g.N {
					if n := impl.Bound(m, x, v); all[x][v] >= 0 && n != all[x][v] {
						t.Fatalf("%v %v: from the mark %d to %d: %d", g, nodes, x, v, n)
					}
					if n := impl.Bound(m, v, x); all[v][x] >= 0 && n != all[v][x] {
						t.Fatalf("%v %v: from %d to the mark %d: %d", g, nodes, v, x, n)
					}
				}
			}
		}
	}
}

func TestByMarksItIsAsFarAsWithout(t *testing.T) {
	for i, g := range append(someGraphs(), tiedGraphs()...) {
		all := allDistances(g)
		for _, nodes := range marksSets(g, i) {
			m, _ := impl.MarksOf(g, nodes)
			for _, p := range somePairs(g) {
				if d := impl.QueryMarks(g, m, p[0], p[1]); d != all[p[0]][p[1]] {
					t.Fatalf("%v %v: %v is %d", g, nodes, p, d)
				}
			}
		}
	}
}

// From 0 the light arc to 1 leads away; from 1 one comes to the mark 4, but not from 2.
func TestByMarksThatAreNotReachedFromAll(t *testing.T) {
	g := withArcs(5, impl.Arc{From: 0, To: 1, W: 1}, impl.Arc{From: 0, To: 2, W: 9}, impl.Arc{From: 1, To: 2, W: 7}, impl.Arc{From: 1, To: 4, W: 900}, impl.Arc{From: 2, To: 3, W: 1})
	for _, nodes := range [][]int64{{4}, {3}, {0}, {3, 4}, {4, 0, 2}} {
		m, ok := impl.MarksOf(g, nodes)
		if d := impl.QueryMarks(g, m, 0, 3); !ok || d != 9 {
			t.Errorf("%v: %d", nodes, d)
		}
		if d := impl.QueryMarks(g, m, 3, 0); d != -1 {
			t.Errorf("%v, back: %d", nodes, d)
		}
		if d := impl.QueryMarks(g, m, 4, 4); d != 0 {
			t.Errorf("%v, from there to there: %d", nodes, d)
		}
	}
}

func TestQueryMarksOfWhatIsNoNode(t *testing.T) {
	for _, g := range []impl.Graph{{N: 1}, chain(5, 1), firstArcs(12, 132), firstArcs(impl.MaxNodes, impl.MaxArcs)} {
		for _, nodes := range [][]int64{nil, {0}, {g.N - 1}} {
			m, _ := impl.MarksOf(g, nodes)
			for _, pair := range noneOnTheWay(g) {
				if d := impl.QueryMarks(g, m, pair[0], pair[1]); d != -1 {
					t.Errorf("%v %v: %v is %d", g, nodes, pair, d)
				}
			}
		}
	}
	for _, x := range wrongGraphs() {
		for u := int64(-1); u < 4; u++ {
			if d := impl.QueryMarks(x.g, impl.Marks{}, u, 0); d != -1 {
				t.Errorf("%s: %d", x.name, d)
			}
		}
	}
}

func TestFarthestAsWritten(t *testing.T) {
	star := withArcs(5, arc(0, 1, 3), arc(0, 2, 9), arc(0, 3, 9), arc(0, 4, 8), arc(3, 0, 1))
	for i, c := range []struct {
		g     impl.Graph
		nodes []int64
		want  int64
	}{
		{impl.Graph{N: 1}, nil, 0},
		{impl.Graph{N: 1}, []int64{0}, 0},
		{impl.Graph{N: 3}, []int64{0}, 1},
		{impl.Graph{N: 3}, []int64{1}, 0},
		{impl.Graph{N: 3}, []int64{1, 0}, 2},
		{impl.Graph{N: 3}, []int64{2, 0, 1}, 0},
		{star, nil, 0},
		{star, []int64{}, 0},
		{star, []int64{0}, 2},          // 2 and 3 are equally far
		{star, []int64{3}, 2},          // 10 away
		{star, []int64{0, 2}, 3},       // 9 away
		{star, []int64{2, 3, 0}, 4},    // 8 away
		{star, []int64{3, 0, 2, 4}, 1}, // 3 away
		{star, []int64{0, 1, 2, 3, 4}, 0},
		{star, []int64{1}, 0},          // all the others are reached from none
		{star, []int64{1, 2}, 0},       // so are 0, 3 and 4
		{star, []int64{4, 1, 2}, 0},    // 0 and 3
		{star, []int64{4, 3, 1, 2}, 0}, // 1 away
		// From the nearest one, not from the first one nor from the farthest one.
		{chain(6, 10), []int64{0}, 5},
		{chain(6, 10), []int64{0, 4}, 3},
		{chain(6, 10), []int64{4, 0}, 3},
		{chain(6, 10), []int64{0, 3}, 2},
		// A node that is reached from one of them is not far, though it is from none of the others.
		{withArcs(4, arc(1, 0, 5), arc(1, 3, 6), arc(2, 3, 1)), []int64{1, 2}, 0},
		{withArcs(4, arc(1, 0, 5), arc(1, 3, 6), arc(2, 3, 7)), []int64{2, 1}, 3},
		// A node that is reached, however far, is nearer than one that is not.
		{chain(impl.MaxNodes, impl.MaxW), []int64{0}, impl.MaxNodes - 1},
		{chain(impl.MaxNodes, impl.MaxW), []int64{1}, 0},
		{withArcs(impl.MaxNodes, chain(impl.MaxNodes-1, impl.MaxW).Arcs...), []int64{0}, impl.MaxNodes - 1},
	} {
		if v := impl.Farthest(c.g, c.nodes); v != c.want {
			t.Errorf("%d: %d", i, v)
		}
	}
}

func TestFarthestOfAllGraphs(t *testing.T) {
	r := &numbers{state: 7}
	for _, g := range append(someGraphs(), tiedGraphs()...) {
		all := allDistances(g)
		for count := range int(g.N) + 1 {
			nodes := someNodes(r, g, count)
			var dist []int64
			for v := range g.N {
				nearest := int64(far)
				for _, x := range nodes {
					if all[x][v] >= 0 {
						nearest = min(nearest, all[x][v])
					}
				}
				dist = append(dist, nearest)
			}
			if v := impl.Farthest(g, nodes); v != int64(slices.Index(dist, slices.Max(dist))) {
				t.Fatalf("%v %v: %d", g, nodes, v)
			}
		}
	}
}

func TestFarthestRefusals(t *testing.T) {
	for _, g := range []impl.Graph{{N: 1}, chain(5, 1), firstArcs(12, 132), firstArcs(impl.MaxNodes, impl.MaxArcs)} {
		for _, nodes := range unfitNodes(g) {
			if v := impl.Farthest(g, nodes); v != -1 {
				t.Errorf("%v %v: %d", g, nodes, v)
			}
		}
	}
	for _, x := range wrongGraphs() {
		for _, nodes := range [][]int64{nil, {}, {0}, {0, 1}, {-1}} {
			if v := impl.Farthest(x.g, nodes); v != -1 {
				t.Errorf("%s %v: %d", x.name, nodes, v)
			}
		}
	}
}

func TestMarkAnswersAreNewMemory(t *testing.T) {
	arcs, arcsUnchanged := guarded(t, firstArcs(6, 30).Arcs, impl.Arc{From: -7, To: -7, W: -7})
	g := impl.Graph{N: 6, Arcs: arcs}
	nodes, nodesUnchanged := guarded(t, []int64{4, 0, 2}, -7)
	holdTwice(t, func() [][]int64 {
		m, _ := impl.MarksOf(g, nodes)
		list := [][]int64{m.Nodes}
		for i := range nodes {
			list = append(list, m.From[i].D, m.To[i].D)
		}
		return append(list, []int64{impl.Farthest(g, nodes)})
	})
	m, _ := impl.MarksOf(g, nodes)
	was := cloneMarks(m)
	spoil(m.From, impl.Row{})
	if !sameRows(m.To, was.To) {
		t.Error("From and To share memory")
	}
	arcsUnchanged()
	nodesUnchanged()
}

func TestNothingIsWrittenIntoMarks(t *testing.T) {
	g := firstArcs(6, 30)
	right, _ := impl.MarksOf(g, []int64{4, 0})
	var unchanged []func()
	list := func(l []int64) []int64 {
		l, same := guarded(t, l, -7)
		unchanged = append(unchanged, same)
		return l
	}
	m := impl.Marks{Nodes: list(right.Nodes)}
	spare := list([]int64{3, 3})
	for i := range right.Nodes {
		m.From = append(m.From, impl.Row{D: list(right.From[i].D)})
		m.To = append(m.To, impl.Row{D: list(right.To[i].D)})
	}
	m.From = append(m.From, impl.Row{D: spare})[:2]
	m.To = append(m.To, impl.Row{D: spare})[:2]
	for range 2 {
		if !impl.MarksOk(g, m) || impl.Bound(m, 0, 5) != impl.DistOf(g, 0, 5) || impl.QueryMarks(g, m, 3, 5) != impl.DistOf(g, 3, 5) {
			t.Error(m)
		}
	}
	for _, same := range unchanged {
		same()
	}
	if !sameMarks(m, right) || !slices.Equal(m.From[:3][2].D, spare) || !slices.Equal(m.To[:3][2].D, spare) {
		t.Error(m)
	}
}
