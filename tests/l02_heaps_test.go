package tests

import (
	"cmp"
	"math"
	"slices"
	"testing"

	"loop.example/g00546/impl"
)

// items are Key, Id, Key, Id ..
func items(list ...int64) []impl.Item {
	var l []impl.Item
	for i := 0; i+1 < len(list); i += 2 {
		l = append(l, impl.Item{Key: list[i], Id: list[i+1]})
	}
	return l
}

// risingItems is a heap of so many.
func risingItems(count int) []impl.Item {
	var l []impl.Item
	for i := range int64(count) {
		l = append(l, impl.Item{Key: i, Id: 1000 - i})
	}
	return l
}

func compareItems(a impl.Item, b impl.Item) int {
	return cmp.Or(cmp.Compare(a.Key, b.Key), cmp.Compare(a.Id, b.Id))
}

// randomItems have unlike Ids and few unlike Keys.
func randomItems(r *numbers, count int) []impl.Item {
	var l []impl.Item
	for i := range count {
		l = append(l, impl.Item{Key: int64(r.below(20)) - 10, Id: int64(i) - 5})
	}
	for i := range l {
		j := i + r.below(len(l)-i)
		l[i], l[j] = l[j], l[i]
	}
	return l
}

type namedItems struct {
	name string
	l    []impl.Item
}

// wrongHeaps has one for each reason for which a heap is not right.
func wrongHeaps() []namedItems {
	return []namedItems{
		{"101 items", risingItems(impl.MaxHeap + 1)},
		{"alike Ids, unlike Keys", items(2, 1, 3, 1)},
		{"alike Ids, alike Keys", items(2, 1, 2, 1)},
		{"alike Ids far from each other", items(1, 9, 2, 1, 3, 2, 4, 3, 5, 4, 6, 9)},
		{"alike Ids side by side", items(1, 5, 2, 7, 3, 7)},
		{"alike Ids of 0", items(0, 0, 0, 0)},
		{"alike extreme Ids", items(1, math.MinInt64, 2, math.MinInt64)},
		{"second less by Key", items(2, 1, 1, 2)},
		{"second less by Id", items(2, 2, 2, 1)},
		{"third less by Key", items(2, 1, 3, 2, 1, 3)},
		{"third less by Id", items(2, 2, 3, 3, 2, 1)},
		{"fourth less than second", items(1, 1, 5, 2, 2, 3, 4, 4)},
		{"fifth less than second", items(1, 1, 5, 2, 2, 3, 6, 4, 4, 5)},
		{"sixth less than third", items(1, 1, 2, 2, 5, 3, 6, 4, 7, 5, 4, 6)},
		{"seventh less than third", items(1, 1, 2, 2, 5, 3, 6, 4, 7, 5, 8, 6, 4, 7)},
		{"less by the greatest difference", items(math.MaxInt64, 1, math.MinInt64, 2)},
		{"less by the greatest difference of Ids", items(0, math.MaxInt64, 0, math.MinInt64)},
	}
}

func TestLimitOfHeaps(t *testing.T) {
	if impl.MaxHeap != 100 {
		t.Error(impl.MaxHeap)
	}
}

func TestHeapOkOfRightHeaps(t *testing.T) {
	for _, h := range [][]impl.Item{
		nil,
		{},
		items(0, 0),
		items(math.MinInt64, math.MaxInt64),
		items(2, 1, 2, 2),
		items(1, 9, 5, 2, 2, 3, 6, 4, 7, 5, 2, 6, 3, 7),
		items(math.MinInt64, 1, math.MaxInt64, 2, math.MinInt64, 3),
		items(0, math.MinInt64, 0, math.MaxInt64, 0, -1),
		risingItems(impl.MaxHeap - 1),
		risingItems(impl.MaxHeap),
	} {
		if !impl.HeapOk(h) {
			t.Errorf("%v", h)
		}
	}
}

func TestWrongHeapsGetTheFixedAnswers(t *testing.T) {
	for _, x := range wrongHeaps() {
		if impl.HeapOk(x.l) {
			t.Errorf("%s: right", x.name)
		}
		if h, ok := impl.HeapPush(x.l, impl.Item{Key: 1, Id: 50000}); ok || len(h) != 0 {
			t.Errorf("%s: push %v %v", x.name, h, ok)
		}
		if h, first, ok := impl.HeapPop(x.l); ok || len(h) != 0 || first != (impl.Item{}) {
			t.Errorf("%s: pop %v %v %v", x.name, h, first, ok)
		}
		for _, y := range x.l {
			if h, ok := impl.HeapLess(x.l, y.Id, y.Key); ok || len(h) != 0 {
				t.Errorf("%s: less %v %v", x.name, h, ok)
			}
		}
	}
}

func TestHeapPushAsWritten(t *testing.T) {
	for i, c := range []struct {
		h    []impl.Item
		x    impl.Item
		want []impl.Item
	}{
		{nil, impl.Item{Key: 4, Id: 2}, items(4, 2)},
		{items(3, 1), impl.Item{Key: 4, Id: 2}, items(3, 1, 4, 2)},
		{items(3, 1), impl.Item{Key: 2, Id: 2}, items(2, 2, 3, 1)},
		{items(3, 5), impl.Item{Key: 3, Id: 4}, items(3, 4, 3, 5)},
		{items(3, 5), impl.Item{Key: 3, Id: 6}, items(3, 5, 3, 6)},
		{items(1, 1, 5, 2), impl.Item{Key: 3, Id: 3}, items(1, 1, 5, 2, 3, 3)},
		{items(1, 1, 5, 2, 3, 3), impl.Item{Key: 4, Id: 4}, items(1, 1, 4, 4, 3, 3, 5, 2)},
		{items(1, 1, 5, 2, 3, 3), impl.Item{Key: 0, Id: 4}, items(0, 4, 1, 1, 3, 3, 5, 2)},
		{items(1, 1, 5, 2, 3, 3, 6, 4, 7, 5), impl.Item{Key: 2, Id: 6}, items(1, 1, 5, 2, 2, 6, 6, 4, 7, 5, 3, 3)},
		{items(1, 1, 5, 2, 3, 3, 6, 4, 7, 5, 8, 6), impl.Item{Key: 0, Id: 7}, items(0, 7, 5, 2, 1, 1, 6, 4, 7, 5, 8, 6, 3, 3)},
		{items(0, 0), impl.Item{Key: math.MinInt64, Id: math.MinInt64}, items(math.MinInt64, math.MinInt64, 0, 0)},
		{items(math.MinInt64, 0), impl.Item{Key: math.MaxInt64, Id: math.MaxInt64}, items(math.MinInt64, 0, math.MaxInt64, math.MaxInt64)},
		{items(math.MinInt64, 0), impl.Item{Key: math.MinInt64, Id: math.MinInt64}, items(math.MinInt64, math.MinInt64, math.MinInt64, 0)},
	} {
		if h, ok := impl.HeapPush(c.h, c.x); !ok || !slices.Equal(h, c.want) {
			t.Errorf("%d: %v %v", i, h, ok)
		}
	}
}

func TestHeapPushRefusals(t *testing.T) {
	full := risingItems(impl.MaxHeap)
	for _, x := range []impl.Item{{Key: -1, Id: -1}, {Key: 500, Id: 5000}, full[7]} {
		if h, ok := impl.HeapPush(full, x); ok || len(h) != 0 {
			t.Errorf("one too many: %v", x)
		}
	}
	if h, ok := impl.HeapPush(full[:impl.MaxHeap-1], impl.Item{Key: 500, Id: 5000}); !ok || len(h) != impl.MaxHeap || h[impl.MaxHeap-1].Id != 5000 {
		t.Error("the last one that may be")
	}
	h := items(1, 1, 5, 2, 3, 3, 6, math.MaxInt64, 7, math.MinInt64)
	for _, x := range h {
		for _, key := range []int64{x.Key, x.Key - 1, x.Key + 1, math.MinInt64, math.MaxInt64} {
			if l, ok := impl.HeapPush(h, impl.Item{Key: key, Id: x.Id}); ok || len(l) != 0 {
				t.Errorf("Id %d twice", x.Id)
			}
		}
	}
}

func TestHeapPopAsWritten(t *testing.T) {
	for i, c := range []struct{ h, want []impl.Item }{
		{items(4, 2), nil},
		{items(1, 1, 2, 2), items(2, 2)},
		{items(1, 1, 3, 2, 2, 3), items(2, 3, 3, 2)},
		{items(1, 1, 2, 2, 3, 3), items(2, 2, 3, 3)},
		{items(1, 1, 2, 3, 2, 2, 9, 4), items(2, 2, 2, 3, 9, 4)},
		{items(1, 1, 2, 2, 2, 3, 9, 4), items(2, 2, 9, 4, 2, 3)},
		{items(1, 1, 2, 2, 3, 3, 4, 4, 5, 5), items(2, 2, 4, 4, 3, 3, 5, 5)},
		{items(1, 1, 4, 2, 2, 3, 5, 4, 6, 5, 3, 6), items(2, 3, 4, 2, 3, 6, 5, 4, 6, 5)},
		{items(1, 1, 2, 2, 8, 3, 7, 4, 3, 5, 9, 6, 10, 7), items(2, 2, 3, 5, 8, 3, 7, 4, 10, 7, 9, 6)},
		{items(1, 1, 2, 2, 9, 3, 6, 4, 7, 5, 9, 8, 9, 7, 8, 6), items(2, 2, 6, 4, 9, 3, 8, 6, 7, 5, 9, 8, 9, 7)},
		{items(1, 9, 1, 10, 1, 11), items(1, 10, 1, 11)},
		{items(math.MinInt64, 0, math.MaxInt64, 1, 0, 2, math.MaxInt64, 3), items(0, 2, math.MaxInt64, 1, math.MaxInt64, 3)},
	} {
		h, first, ok := impl.HeapPop(c.h)
		if !ok || first != c.h[0] || !slices.Equal(h, c.want) {
			t.Errorf("%d: %v %v %v", i, h, first, ok)
		}
	}
	for _, h := range [][]impl.Item{nil, {}} {
		if l, first, ok := impl.HeapPop(h); ok || len(l) != 0 || first != (impl.Item{}) {
			t.Errorf("empty: %v %v %v", l, first, ok)
		}
	}
}

func TestHeapLessAsWritten(t *testing.T) {
	h := items(1, 1, 5, 2, 3, 3, 6, 4, 7, 5, 8, 6)
	for _, c := range []struct {
		id, key int64
		want    []impl.Item
	}{
		{1, 1, h},
		{1, 0, items(0, 1, 5, 2, 3, 3, 6, 4, 7, 5, 8, 6)},
		{2, 5, h},
		{2, 4, items(1, 1, 4, 2, 3, 3, 6, 4, 7, 5, 8, 6)},
		{2, 1, items(1, 1, 1, 2, 3, 3, 6, 4, 7, 5, 8, 6)},
		{2, 0, items(0, 2, 1, 1, 3, 3, 6, 4, 7, 5, 8, 6)},
		{4, 5, items(1, 1, 5, 2, 3, 3, 5, 4, 7, 5, 8, 6)},
		{4, 4, items(1, 1, 4, 4, 3, 3, 5, 2, 7, 5, 8, 6)},
		{6, 8, h},
		{6, 3, items(1, 1, 5, 2, 3, 3, 6, 4, 7, 5, 3, 6)},
		{6, 2, items(1, 1, 5, 2, 2, 6, 6, 4, 7, 5, 3, 3)},
		{6, math.MinInt64, items(math.MinInt64, 6, 5, 2, 1, 1, 6, 4, 7, 5, 3, 3)},
	} {
		if l, ok := impl.HeapLess(h, c.id, c.key); !ok || !slices.Equal(l, c.want) {
			t.Errorf("%d %d: %v %v", c.id, c.key, l, ok)
		}
	}
	if l, ok := impl.HeapLess(items(2, 1, 3, 9, 2, 3), 9, 2); !ok || !slices.Equal(l, items(2, 1, 2, 9, 2, 3)) {
		t.Error("same Key, greater Id", l)
	}
	if l, ok := impl.HeapLess(items(2, 5, 3, 4), 4, 2); !ok || !slices.Equal(l, items(2, 4, 2, 5)) {
		t.Error("same Key, lesser Id", l)
	}
}

func TestHeapLessRefusals(t *testing.T) {
	h := items(1, 1, 5, 2, 3, math.MinInt64, 6, 0)
	for _, c := range [][2]int64{{1, 2}, {2, 6}, {2, math.MaxInt64}, {math.MinInt64, 4}, {0, 7}, {3, 0}, {5, 0}, {-1, math.MinInt64}, {math.MaxInt64, 1}, {math.MaxInt64, math.MinInt64}} {
		if l, ok := impl.HeapLess(h, c[0], c[1]); ok || len(l) != 0 {
			t.Errorf("%v: %v %v", c, l, ok)
		}
	}
	if l, ok := impl.HeapLess(nil, 0, 0); ok || len(l) != 0 {
		t.Error("empty")
	}
}

func TestHeapOfAsWritten(t *testing.T) {
	for i, c := range []struct{ l, want []impl.Item }{
		{nil, nil},
		{[]impl.Item{}, nil},
		{items(4, 2), items(4, 2)},
		{items(4, 2, 4, 1), items(4, 1, 4, 2)},
		{items(3, 1, 2, 2, 1, 3), items(1, 3, 2, 2, 3, 1)},
		{items(7, 1, 6, 2, 5, 3, 4, 4, 3, 5, 2, 6, 1, 7), items(1, 7, 3, 5, 2, 6, 4, 4, 6, 2, 7, 1, 5, 3)},
		{items(9, 1, 1, 2, 8, 3, 2, 4, 7, 5, 3, 6), items(1, 2, 2, 4, 3, 6, 9, 1, 7, 5, 8, 3)},
		{items(0, math.MaxInt64, 0, 0, 0, math.MinInt64), items(0, math.MinInt64, 0, 0, 0, math.MaxInt64)},
		{items(math.MaxInt64, 0, math.MinInt64, 1, 0, 2), items(math.MinInt64, 1, math.MaxInt64, 0, 0, 2)},
	} {
		if h, ok := impl.HeapOf(c.l); !ok || !slices.Equal(h, c.want) {
			t.Errorf("%d: %v %v", i, h, ok)
		}
	}
}

func TestHeapOfRefusals(t *testing.T) {
	falling := risingItems(impl.MaxHeap + 1)
	slices.Reverse(falling)
	for _, x := range []namedItems{
		{"101 items", risingItems(impl.MaxHeap + 1)},
		{"101 falling items", falling},
		{"very many items", make([]impl.Item, 100000)},
		{"alike Ids, unlike Keys", items(3, 1, 2, 1)},
		{"alike Ids, alike Keys", items(2, 1, 2, 1)},
		{"alike Ids far from each other", items(5, 7, 1, 1, 2, 2, 3, 3, 4, 7)},
		{"alike extreme Ids", items(5, math.MaxInt64, 1, 1, 2, math.MaxInt64)},
	} {
		if h, ok := impl.HeapOf(x.l); ok || len(h) != 0 {
			t.Errorf("%s: %v %v", x.name, h, ok)
		}
	}
	if h, ok := impl.HeapOf(falling[:impl.MaxHeap]); !ok || !impl.HeapOk(h) || len(h) != impl.MaxHeap {
		t.Error("100 items")
	}
}

// popAll checks at each step that what is popped is the least one.
func popAll(t *testing.T, h []impl.Item) []impl.Item {
	t.Helper()
	var popped []impl.Item
	for len(h) > 0 {
		least := slices.MinFunc(h, compareItems)
		rest, first, ok := impl.HeapPop(h)
		if !ok || first != least || len(rest) != len(h)-1 || !impl.HeapOk(rest) {
			t.Fatalf("%v: %v %v %v", h, rest, first, ok)
		}
		popped = append(popped, first)
		h = rest
	}
	return popped
}

func TestItemsComeOutInOrder(t *testing.T) {
	r := &numbers{state: 2}
	for count := range impl.MaxHeap + 1 {
		l := randomItems(r, count)
		ordered := slices.SortedFunc(slices.Values(l), compareItems)
		h, ok := impl.HeapOf(l)
		if !ok || !impl.HeapOk(h) {
			t.Fatalf("%v: %v %v", l, h, ok)
		}
		if popped := popAll(t, h); !slices.Equal(popped, ordered) {
			t.Fatalf("%v comes out as %v", l, popped)
		}
		var pushed []impl.Item
		for _, x := range l {
			if pushed, ok = impl.HeapPush(pushed, x); !ok || !impl.HeapOk(pushed) {
				t.Fatalf("%v: %v", x, pushed)
			}
		}
		if popped := popAll(t, pushed); !slices.Equal(popped, ordered) {
			t.Fatalf("%v, pushed, comes out as %v", l, popped)
		}
	}
}

func TestWhatIsMadeLessComesOutInOrder(t *testing.T) {
	r := &numbers{state: 3}
	for count := 1; count <= impl.MaxHeap; count++ {
		h, _ := impl.HeapOf(randomItems(r, count))
		want := slices.Clone(h)
		for range 5 {
			i := r.below(count)
			want[i].Key -= int64(r.below(8))
			var ok bool
			if h, ok = impl.HeapLess(h, want[i].Id, want[i].Key); !ok || !impl.HeapOk(h) {
				t.Fatalf("%v: %v", want[i], h)
			}
		}
		slices.SortFunc(want, compareItems)
		if popped := popAll(t, h); !slices.Equal(popped, want) {
			t.Fatalf("%v comes out as %v", want, popped)
		}
	}
}

func TestHeapAnswersAreNewMemory(t *testing.T) {
	bad := impl.Item{Key: -99, Id: -99}
	h, heapUnchanged := guarded(t, items(1, 1, 5, 2, 3, 3, 6, 4, 7, 5), bad)
	l, listUnchanged := guarded(t, items(7, 1, 6, 2, 5, 3, 4, 4), bad)
	none, noneUnchanged := guarded(t, nil, bad)
	answers := func() [][]impl.Item {
		pushed, _ := impl.HeapPush(h, impl.Item{Key: 0, Id: 6})
		one, _ := impl.HeapPush(none, impl.Item{Key: 0, Id: 6})
		popped, _, _ := impl.HeapPop(h)
		less, _ := impl.HeapLess(h, 5, 0)
		same, _ := impl.HeapLess(h, 5, 7)
		arranged, _ := impl.HeapOf(l)
		as, _ := impl.HeapOf(h)
		empty, _ := impl.HeapOf(none)
		return [][]impl.Item{pushed, one, popped, less, same, arranged, as, empty}
	}
	first := answers()
	var was [][]impl.Item
	for _, x := range first {
		was = append(was, slices.Clone(x))
	}
	impl.HeapOk(h)
	for _, x := range first {
		spoil(x, bad)
	}
	heapUnchanged()
	listUnchanged()
	noneUnchanged()
	for i, x := range answers() {
		if !slices.Equal(x, was[i]) {
			t.Errorf("answer %d was %v and is %v", i, was[i], x)
		}
	}
}
