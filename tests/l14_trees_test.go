package tests

import (
	"slices"
	"testing"

	"loop.example/g00546/impl"
)

func tree(root int64, up ...int64) impl.Tree {
	return impl.Tree{Root: root, Up: up}
}

func sameTree(a impl.Tree, b impl.Tree) bool {
	return a.Root == b.Root && slices.Equal(a.Up, b.Up)
}

// treeByHand is that of s in g when all nodes are so far from it.
func treeByHand(g impl.Graph, dist []int64, s int64) impl.Tree {
	t := impl.Tree{Root: s}
	for v := range g.N {
		up := int64(-1)
		for _, a := range g.Arcs {
			shortest := dist[a.From] >= 0 && dist[a.From]+a.W == dist[v]
			if a.To == v && v != s && shortest && (up < 0 || a.From < up) {
				up = a.From
			}
		}
		t.Up = append(t.Up, up)
	}
	return t
}

// pathByHand are the nodes from Root down to v by Up, none where the document says so.
func pathByHand(t impl.Tree, v int64) []int64 {
	count := int64(len(t.Up))
	if count > impl.MaxNodes || v < 0 || v >= count || t.Root < 0 || t.Root >= count {
		return nil
	}
	for _, u := range t.Up {
		if u < -1 || u >= count {
			return nil
		}
	}
	path := []int64{v}
	for range count {
		if path[0] == t.Root {
			return path
		}
		if t.Up[path[0]] < 0 {
			return nil
		}
		path = slices.Insert(path, 0, t.Up[path[0]])
	}
	return nil
}

func underByHand(t impl.Tree, v int64) []int64 {
	var list []int64
	for x := range t.Up {
		if slices.Contains(pathByHand(t, int64(x)), v) {
			list = append(list, int64(x))
		}
	}
	return list
}

// holdTree holds the paths and what is under each place against those by hand.
func holdTree(t *testing.T, x impl.Tree) {
	t.Helper()
	places := append([]int64{-1, x.Root, int64(len(x.Up)), int64(len(x.Up)) + 1, impl.MaxNodes, impl.MaxNodes + 1}, extremes...)
	for v := range min(len(x.Up), 30) {
		places = append(places, int64(v))
	}
	for _, v := range places {
		if l := impl.PathIn(x, v); !slices.Equal(l, pathByHand(x, v)) {
			t.Errorf("%v: the path to %d is %v, not %v", x, v, l, pathByHand(x, v))
		}
		if l := impl.Under(x, v); !slices.Equal(l, underByHand(x, v)) {
			t.Errorf("%v: under %d are %v, not %v", x, v, l, underByHand(x, v))
		}
	}
}

func TestTreesAsWritten(t *testing.T) {
	g := withArcs(5, arc(0, 1, 2), arc(0, 2, 5), arc(1, 2, 2), arc(1, 3, 6), arc(2, 3, 1), arc(3, 0, 4))
	long := slices.Insert(allNodes(impl.MaxNodes-1), 0, -1)
	for i, c := range []struct {
		g    impl.Graph
		s    int64
		want []int64
	}{
		// Of one node.
		{impl.Graph{N: 1}, 0, []int64{-1}},
		// A node that is not reached.
		{impl.Graph{N: 2}, 0, []int64{-1, -1}},
		{impl.Graph{N: 2}, 1, []int64{-1, -1}},
		{withArcs(2, arc(0, 1, 1000)), 0, []int64{-1, 0}},
		{withArcs(2, arc(0, 1, 1000)), 1, []int64{-1, -1}},
		{g, 0, []int64{-1, 0, 1, 2, -1}},
		{g, 1, []int64{3, -1, 1, 2, -1}},
		{g, 2, []int64{3, 0, -1, 2, -1}},
		{g, 3, []int64{3, 0, 1, -1, -1}},
		{g, 4, []int64{-1, -1, -1, -1, -1}},
		{chain(impl.MaxNodes, impl.MaxW), 0, long},
		{chain(4, 1), 2, []int64{-1, -1, -1, 2}},
		{impl.Reversed(chain(4, 1)), 2, []int64{1, 2, -1, -1}},
		// From a node that is not reached an arc leads to one that is; it is as heavy as that is far, or one more.
		{withArcs(3, arc(0, 1, 5), arc(2, 1, 5)), 0, []int64{-1, 0, -1}},
		{withArcs(3, arc(0, 2, 6), arc(1, 2, 6)), 1, []int64{-1, -1, 1}},
		{withArcs(3, arc(0, 2, 7), arc(1, 2, 6)), 1, []int64{-1, -1, 1}},
		{withArcs(3, arc(0, 2, 5), arc(1, 2, 6)), 1, []int64{-1, -1, 1}},
		{withArcs(3, arc(0, 2, 1), arc(1, 2, 1)), 1, []int64{-1, -1, 1}},
		{withArcs(3, arc(0, 1, 1)), 2, []int64{-1, -1, -1}},
		{withArcs(3, arc(0, 1, 1), arc(1, 0, 1)), 2, []int64{-1, -1, -1}},
		// Two ahead that are as good: the lesser one, though the other one is nearer to s, or is s.
		{withArcs(4, arc(0, 1, 1), arc(0, 2, 1), arc(1, 3, 1), arc(2, 3, 1)), 0, []int64{-1, 0, 0, 1}},
		{withArcs(4, arc(0, 1, 3), arc(0, 2, 1), arc(1, 3, 1), arc(2, 3, 3)), 0, []int64{-1, 0, 0, 1}},
		{withArcs(4, arc(0, 1, 1), arc(0, 2, 3), arc(1, 3, 3), arc(2, 3, 1)), 0, []int64{-1, 0, 0, 1}},
		{withArcs(3, arc(1, 0, 2), arc(1, 2, 1), arc(2, 0, 1)), 1, []int64{1, -1, 1}},
		{withArcs(3, arc(0, 1, 1), arc(2, 0, 1), arc(2, 1, 2)), 2, []int64{2, 0, -1}},
		// Of two ahead the one that is as good, not the lesser one.
		{withArcs(4, arc(0, 1, 1), arc(0, 2, 1), arc(1, 3, 2), arc(2, 3, 1)), 0, []int64{-1, 0, 0, 2}},
		// Each is the least by itself; the path to 4 is not the first one then.
		{withArcs(5, arc(0, 2, 1), arc(0, 3, 1), arc(1, 4, 1), arc(2, 4, 2), arc(3, 1, 1)), 0, []int64{-1, 3, 0, 0, 1}},
	} {
		x, ok := impl.TreeOf(c.g, c.s)
		if !ok || !sameTree(x, tree(c.s, c.want...)) || !impl.TreeOk(c.g, x) {
			t.Errorf("%d: %v %v", i, x, ok)
		}
		holdTree(t, x)
	}
}

func TestTreesOfAllGraphs(t *testing.T) {
	for _, g := range append(someGraphs(), tiedGraphs()...) {
		all := allDistances(g)
		for s := range g.N {
			x, ok := impl.TreeOf(g, s)
			if want := treeByHand(g, all[s], s); !ok || !sameTree(x, want) || !impl.TreeOk(g, x) {
				t.Fatalf("%v from %d: %v %v, not %v", g, s, x, ok, want)
			}
			for v, up := range x.Up {
				if reached := all[s][v] > 0; reached != (up >= 0) {
					t.Fatalf("%v from %d: up from %d is %d", g, s, v, up)
				}
			}
		}
	}
}

func TestInATreeEachNodeThatIsReachedHasAPathAsLongAsItIsFar(t *testing.T) {
	for _, g := range append(someGraphs(), tiedGraphs()...) {
		for s := range g.N {
			x, _ := impl.TreeOf(g, s)
			for v, d := range impl.DistFrom(g, s) {
				p := impl.PathIn(x, int64(v))
				if d < 0 {
					if len(p) != 0 {
						t.Fatalf("%v from %d: %d is not reached, but %v", g, s, v, p)
					}
					continue
				}
				length, ok := impl.LengthOf(g, p)
				if !ok || length != d || p[0] != s || p[len(p)-1] != int64(v) {
					t.Fatalf("%v from %d: %d is %d away, but %v", g, s, v, d, p)
				}
				for i, u := range p[1:] {
					if x.Up[u] != p[i] {
						t.Fatalf("%v: %v", x, p)
					}
				}
			}
			if l := impl.Under(x, s); !slices.Equal(l, impl.ReachedFrom(g, s)) {
				t.Fatalf("%v from %d: under it %v", g, s, l)
			}
		}
	}
}

func TestUnderIsAllThatHasItInItsPath(t *testing.T) {
	for i, g := range append(someGraphs(), tiedGraphs()...) {
		x, _ := impl.TreeOf(g, int64(i)%g.N)
		holdTree(t, x)
	}
}

func TestPathsInATreeAsWritten(t *testing.T) {
	// 5 does not come to the root; 6 comes to 5.
	x := tree(2, 2, 0, -1, 0, 3, -1, 5)
	// What is told of the root does not count: one is there.
	round := tree(2, 2, 0, 1, 0, 3, -1, 5)
	for i, c := range []struct {
		t     impl.Tree
		v     int64
		path  []int64
		under []int64
	}{
		// The root, one in between, a leaf.
		{x, 2, []int64{2}, []int64{0, 1, 2, 3, 4}},
		{x, 0, []int64{2, 0}, []int64{0, 1, 3, 4}},
		{x, 3, []int64{2, 0, 3}, []int64{3, 4}},
		{x, 1, []int64{2, 0, 1}, []int64{1}},
		{x, 4, []int64{2, 0, 3, 4}, []int64{4}},
		// One that does not come to the root, though another one comes to it; one outside.
		{x, 5, nil, nil},
		{x, 6, nil, nil},
		{x, 7, nil, nil},
		{x, -1, nil, nil},
		{round, 2, []int64{2}, []int64{0, 1, 2, 3, 4}},
		{round, 0, []int64{2, 0}, []int64{0, 1, 3, 4}},
		{round, 1, []int64{2, 0, 1}, []int64{1}},
		{tree(0, 0), 0, []int64{0}, []int64{0}},
		{tree(1, 1, 1), 0, []int64{1, 0}, []int64{0}},
		{tree(1, 1, 0), 0, []int64{1, 0}, []int64{0}},
		{tree(1, 1, 0), 1, []int64{1}, []int64{0, 1}},
		// One node alone.
		{tree(0, -1), 0, []int64{0}, []int64{0}},
		{tree(0, -1), 1, nil, nil},
		// Round in a ring, of one, of two, of three, with one that comes to it.
		{tree(0, -1, 1), 1, nil, nil},
		{tree(0, -1, 1), 0, []int64{0}, []int64{0}},
		{tree(0, -1, 2, 1), 1, nil, nil},
		{tree(0, -1, 2, 1), 2, nil, nil},
		{tree(0, -1, 2, 3, 1, 1, 0), 3, nil, nil},
		{tree(0, -1, 2, 3, 1, 1, 0), 4, nil, nil},
		{tree(0, -1, 2, 3, 1, 1, 0), 5, []int64{0, 5}, []int64{5}},
		{tree(0, -1, 2, 3, 1, 1, 0), 0, []int64{0}, []int64{0, 5}},
		// The root is not in Up.
		{tree(2, -1, 0), 0, nil, nil},
		{tree(2, -1, 0), 2, nil, nil},
		{tree(-1, -1, 0), 0, nil, nil},
		{tree(-1, -1, 0), -1, nil, nil},
		{tree(24, -1, 0), 1, nil, nil},
		// A number that is neither -1 nor a place, of the node itself, of another one, of the root.
		{tree(0, -1, 3, 0), 1, nil, nil},
		{tree(0, -1, 3, 0), 2, nil, nil},
		{tree(0, -1, 3, 0), 0, nil, nil},
		{tree(0, -1, -2, 0), 2, nil, nil},
		{tree(0, -2, 0, 0), 1, nil, nil},
		{tree(0, -2, 0, 0), 0, nil, nil},
		{tree(0, 3, 0, 0), 0, nil, nil},
		{tree(0, -1, 0, 24), 1, nil, nil},
		{tree(0, -1, 0, 2), 1, []int64{0, 1}, []int64{1}},
		// None.
		{impl.Tree{}, 0, nil, nil},
		{impl.Tree{}, -1, nil, nil},
		{impl.Tree{Up: []int64{}}, 0, nil, nil},
		{tree(-1), -1, nil, nil},
	} {
		if l := impl.PathIn(c.t, c.v); !slices.Equal(l, c.path) {
			t.Errorf("%d: the path is %v", i, l)
		}
		if l := impl.Under(c.t, c.v); !slices.Equal(l, c.under) {
			t.Errorf("%d: under it are %v", i, l)
		}
		holdTree(t, c.t)
	}
}

func TestHowManyNodesATreeMayHave(t *testing.T) {
	for _, count := range []int64{1, 2, 23, 24, 25, 26, 1000, 100000} {
		down := slices.Insert(allNodes(count-1), 0, -1)
		flat := slices.Insert(make([]int64, count-1), 0, -1)
		// All but the root go round in a ring.
		ring := slices.Clone(down)
		if count > 2 {
			ring[1] = count - 1
		}
		for _, x := range []impl.Tree{tree(0, down...), tree(0, flat...), tree(0, ring...)} {
			path, under := impl.PathIn(x, 0), impl.Under(x, 0)
			if (len(path) == 1) != (count <= impl.MaxNodes) || (len(under) > 0) != (count <= impl.MaxNodes) {
				t.Errorf("%d: %v %v", count, path, under)
			}
		}
		want, all := allNodes(count), count
		if count > impl.MaxNodes {
			want, all = nil, 0
		}
		x := tree(0, down...)
		if l := impl.PathIn(x, count-1); !slices.Equal(l, want) {
			t.Errorf("%d: %v", count, l)
		}
		if l := impl.Under(x, 0); int64(len(l)) != all {
			t.Errorf("%d: %v", count, l)
		}
		if l := impl.PathIn(tree(0, ring...), count-1); count > 2 && len(l) != 0 {
			t.Errorf("%d, round: %v", count, l)
		}
		// The other way round, from the last one.
		if count > impl.MaxNodes {
			continue
		}
		back := tree(count-1, append(allNodes(count)[1:], -1)...)
		slices.Reverse(want)
		if l := impl.PathIn(back, 0); !slices.Equal(l, want) {
			t.Errorf("%d, back: %v", count, l)
		}
		holdTree(t, back)
	}
}

func TestPathsInAnyTree(t *testing.T) {
	r := &numbers{state: 30}
	for i := range 1500 {
		count := 1 + r.below(impl.MaxNodes+i%2)
		var x impl.Tree
		for v := range count {
			up := r.below(count+1) - 1
			// Else nearly all would go round in a ring.
			if i%3 > 0 && v > 0 {
				up = r.below(v)
			}
			x.Up = append(x.Up, int64(up))
		}
		if i%7 == 0 {
			x.Root = int64(r.below(count))
		}
		if i%5 == 0 {
			x.Up[r.below(count)] = int64(r.below(count+4) - 2)
		}
		holdTree(t, x)
	}
}

func TestTreesOfExtremes(t *testing.T) {
	right := tree(0, -1, 0)
	for _, x := range extremes {
		if l := impl.PathIn(right, x); len(l) != 0 {
			t.Errorf("to %d %v", x, l)
		}
		if l := impl.Under(right, x); len(l) != 0 {
			t.Errorf("under %d %v", x, l)
		}
		// -1 is no place, but may be in Up.
		wrong := []impl.Tree{tree(x, -1, 0), tree(x, x, x), tree(x)}
		if x != -1 {
			wrong = append(wrong, tree(0, -1, x), tree(0, x, 0))
		}
		for _, y := range wrong {
			for _, v := range append([]int64{0, 1, 2}, extremes...) {
				if path, under := impl.PathIn(y, v), impl.Under(y, v); len(path) != 0 || len(under) != 0 {
					t.Errorf("%v: to %d %v, under it %v", y, v, path, under)
				}
			}
		}
	}
}

// unlikeTrees are not the tree x, but for its root, for one number or for how many there are.
func unlikeTrees(x impl.Tree) []impl.Tree {
	var list []impl.Tree
	count := int64(len(x.Up))
	for _, root := range append([]int64{-1, count, count + 1}, extremes...) {
		list = append(list, tree(root, x.Up...))
	}
	for v, up := range x.Up {
		if int64(v) != x.Root {
			list = append(list, tree(int64(v), x.Up...))
		}
		for _, other := range append([]int64{-1, 0, up - 1, up + 1, count - 1, count, int64(v)}, extremes...) {
			if other != up {
				list = append(list, tree(x.Root, changed(x.Up, v, other)...))
			}
		}
		list = append(list, tree(x.Root, slices.Delete(slices.Clone(x.Up), v, v+1)...))
	}
	return append(list, tree(x.Root, append(slices.Clone(x.Up), -1)...), tree(x.Root, append(slices.Clone(x.Up), 0)...), tree(x.Root), tree(x.Root, slices.Repeat(x.Up, 10000)...))
}

func TestTreesThatAreNotRight(t *testing.T) {
	g := withArcs(5, arc(0, 1, 2), arc(0, 2, 4), arc(1, 2, 2), arc(1, 3, 5), arc(2, 3, 3), arc(3, 0, 4))
	for _, h := range []impl.Graph{g, chain(4, 7), impl.Reversed(chain(4, 7)), withArcs(4, arc(0, 1, 1), arc(0, 2, 1), arc(1, 3, 1), arc(2, 3, 1))} {
		x, ok := impl.TreeOf(h, 0)
		if !ok || !impl.TreeOk(h, x) {
			t.Fatal(h, x)
		}
		for _, other := range unlikeTrees(x) {
			// A tree without arcs is that of each node from which none leads.
			want, is := impl.TreeOf(h, other.Root)
			if impl.TreeOk(h, other) != (is && sameTree(want, other)) {
				t.Errorf("%v: %v", h, other)
			}
			if other.Root == 0 && impl.TreeOk(h, other) {
				t.Errorf("%v: %v is right", h, other)
			}
		}
	}
	// By 2 it is as far to 3 as by 1, but 2 is not the least.
	tied := withArcs(4, arc(0, 1, 1), arc(0, 2, 1), arc(1, 3, 1), arc(2, 3, 1))
	if !impl.TreeOk(tied, tree(0, -1, 0, 0, 1)) || impl.TreeOk(tied, tree(0, -1, 0, 0, 2)) {
		t.Error("the lesser of two")
	}
	// That of a lighter graph.
	lighter, _ := impl.Weighed(tied, 2, 3, 0)
	if !impl.TreeOk(lighter, tree(0, -1, 0, 0, 1)) || impl.TreeOk(impl.Graph{N: 4}, tree(0, -1, 0, 0, 1)) || !impl.TreeOk(impl.Graph{N: 4}, tree(3, -1, -1, -1, -1)) {
		t.Error("another graph")
	}
}

func TestTreesOfWhatIsNotSo(t *testing.T) {
	none := func(name string, g impl.Graph, s int64) {
		t.Helper()
		if x, ok := impl.TreeOf(g, s); ok || x.Root != 0 || len(x.Up) != 0 {
			t.Errorf("%s, %d: %v %v", name, s, x, ok)
		}
		for _, x := range []impl.Tree{{Root: s}, tree(s, -1), tree(s, -1, 0), tree(s, -1, -1, -1), {Root: s, Up: slices.Repeat([]int64{-1}, int(max(0, min(g.N, 30))))}} {
			if impl.TreeOk(g, x) {
				t.Errorf("%s: %v", name, x)
			}
		}
	}
	for _, x := range wrongGraphs() {
		for _, s := range []int64{-1, 0, 1, 2} {
			none(x.name, x.g, s)
		}
	}
	for _, g := range []impl.Graph{{N: 1}, chain(5, 1), firstArcs(12, 132), firstArcs(impl.MaxNodes, impl.MaxArcs)} {
		for _, s := range noNodes(g) {
			none("no node", g, s)
		}
	}
}

func TestTreeAnswersAreNewMemory(t *testing.T) {
	arcs, arcsUnchanged := guarded(t, chain(5, 4).Arcs, arc(4, 0, 1))
	g := impl.Graph{N: 5, Arcs: arcs}
	up, upUnchanged := guarded(t, []int64{-1, 0, 1, 2, 3}, 0)
	// Behind its end there is what would make it right.
	short, shortUnchanged := guarded(t, []int64{-1, 0, 3}, -1)
	wrong, wrongUnchanged := guarded(t, []int64{-1, 0, 9}, 0)
	x := impl.Tree{Up: up}
	holdTwice(t, func() [][]int64 {
		y, ok := impl.TreeOf(g, 0)
		z, _ := impl.TreeOf(g, 4)
		if !ok || !impl.TreeOk(g, x) || !sameTree(x, y) {
			t.Error(x, y)
		}
		list := [][]int64{y.Up, z.Up, impl.Under(x, 0), impl.Under(x, 3), impl.PathIn(x, 0), impl.PathIn(x, 4)}
		return append(list, impl.PathIn(impl.Tree{Up: short}, 1), impl.Under(impl.Tree{Up: short}, 0), impl.PathIn(impl.Tree{Up: wrong}, 1), impl.Under(impl.Tree{Up: wrong}, 0))
	})
	if l := impl.PathIn(x, 4); !slices.Equal(l, []int64{0, 1, 2, 3, 4}) {
		t.Error(l)
	}
	for _, unchanged := range []func(){arcsUnchanged, upUnchanged, shortUnchanged, wrongUnchanged} {
		unchanged()
	}
}
