package impl

const MaxHeap = 100

type Item struct {
	Key int64
	Id  int64
}

// A heapList knows nothing of its items but which of two is less, so that other
// layers can keep items of their own in it.
type heapList[T any] struct {
	items []T
	less  func(a T, b T) bool
}

func placeAbove(place int) int {
	return (place - 1) / 2
}

func (h *heapList[T]) isHeap() bool {
	for place := 1; place < len(h.items); place++ {
		if h.less(h.items[place], h.items[placeAbove(place)]) {
			return false
		}
	}
	return true
}

func (h *heapList[T]) swap(one int, other int) {
	h.items[one], h.items[other] = h.items[other], h.items[one]
}

func (h *heapList[T]) rise(place int) {
	for place > 0 && h.less(h.items[place], h.items[placeAbove(place)]) {
		h.swap(place, placeAbove(place))
		place = placeAbove(place)
	}
}

func (h *heapList[T]) sink(place int) {
	for {
		least := place
		for below := 2*place + 1; below <= 2*place+2 && below < len(h.items); below++ {
			if h.less(h.items[below], h.items[least]) {
				least = below
			}
		}
		if least == place {
			return
		}
		h.swap(place, least)
		place = least
	}
}

func (h *heapList[T]) push(x T) {
	h.items = append(h.items, x)
	h.rise(len(h.items) - 1)
}

// pop asks for a heap that is not empty.
func (h *heapList[T]) pop() T {
	first := h.items[0]
	last := len(h.items) - 1
	h.items[0] = h.items[last]
	h.items = h.items[:last]
	h.sink(0)
	return first
}

func (h *heapList[T]) arrange() {
	for place := len(h.items)/2 - 1; place >= 0; place-- {
		h.sink(place)
	}
}

func itemLess(a Item, b Item) bool {
	if a.Key != b.Key {
		return a.Key < b.Key
	}
	return a.Id < b.Id
}

// copied is a heapList of its own memory, so that what is done to it does not
// show in l nor in the spare room behind l.
func copied(l []Item) *heapList[Item] {
	return &heapList[Item]{items: append([]Item(nil), l...), less: itemLess}
}

func HeapOk(h []Item) bool {
	if len(h) > MaxHeap || !unlikeIds(h) {
		return false
	}
	list := heapList[Item]{items: h, less: itemLess}
	return list.isHeap()
}

func unlikeIds(l []Item) bool {
	seen := make(map[int64]bool, len(l))
	for _, x := range l {
		if seen[x.Id] {
			return false
		}
		seen[x.Id] = true
	}
	return true
}

// placeOfId is -1 when no item has that Id.
func placeOfId(h []Item, id int64) int {
	for place, x := range h {
		if x.Id == id {
			return place
		}
	}
	return -1
}

func HeapPush(h []Item, x Item) ([]Item, bool) {
	if !HeapOk(h) || len(h) == MaxHeap || placeOfId(h, x.Id) >= 0 {
		return nil, false
	}
	list := copied(h)
	list.push(x)
	return list.items, true
}

func HeapPop(h []Item) ([]Item, Item, bool) {
	if !HeapOk(h) || len(h) == 0 {
		return nil, Item{}, false
	}
	list := copied(h)
	first := list.pop()
	return list.items, first, true
}

func HeapLess(h []Item, id int64, key int64) ([]Item, bool) {
	if !HeapOk(h) {
		return nil, false
	}
	place := placeOfId(h, id)
	if place < 0 || key > h[place].Key {
		return nil, false
	}
	list := copied(h)
	list.items[place].Key = key
	list.rise(place)
	return list.items, true
}

func HeapOf(l []Item) ([]Item, bool) {
	list := copied(l)
	list.arrange()
	if !HeapOk(list.items) {
		return nil, false
	}
	return list.items, true
}
