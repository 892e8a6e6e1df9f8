package tests

import (
	"cmp"
	"go/ast"
	"go/parser"
	"go/token"
	"maps"
	"math"
	"path/filepath"
	"reflect"
	"slices"
	"strings"
	"sync"
	"testing"

	"loop.example/g00546/impl"
)

// everyFunction is each function of all chapters, by its name.
func everyFunction() map[string]any {
	return map[string]any{
		"GraphOk": impl.GraphOk, "GraphText": impl.GraphText, "ReadGraph": impl.ReadGraph, "Reversed": impl.Reversed, "Outs": impl.Outs, "WeightOf": impl.WeightOf, "Weighed": impl.Weighed,
		"HeapOk": impl.HeapOk, "HeapPush": impl.HeapPush, "HeapPop": impl.HeapPop, "HeapLess": impl.HeapLess, "HeapOf": impl.HeapOf,
		"DistFrom": impl.DistFrom, "DistOf": impl.DistOf, "PathOf": impl.PathOf, "LengthOf": impl.LengthOf, "OnShortest": impl.OnShortest,
		"HalfOf": impl.HalfOf, "MeetOf": impl.MeetOf, "TwoSided": impl.TwoSided, "Between": impl.Between,
		"ReachOf": impl.ReachOf, "ReachOk": impl.ReachOk, "Pruned": impl.Pruned, "QueryReach": impl.QueryReach,
		"MarksOf": impl.MarksOf, "MarksOk": impl.MarksOk, "Bound": impl.Bound, "QueryMarks": impl.QueryMarks, "Farthest": impl.Farthest,
		"CutsAt": impl.CutsAt, "OrderOf": impl.OrderOf, "OrderOk": impl.OrderOk, "QueryOrder": impl.QueryOrder, "Unpacked": impl.Unpacked,
		"OverlayOf": impl.OverlayOf, "OverlayOk": impl.OverlayOk, "OverlayDist": impl.OverlayDist, "QueryOverlay": impl.QueryOverlay, "LevelsOf": impl.LevelsOf,
		"AllPairs": impl.AllPairs, "Affected": impl.Affected, "Repaired": impl.Repaired,
		"Matrix": impl.Matrix, "Nearest": impl.Nearest, "Spread": impl.Spread, "Center": impl.Center,
		"ReachedFrom": impl.ReachedFrom, "PartsOf": impl.PartsOf, "Condensed": impl.Condensed,
		"WaysOf": impl.WaysOf, "Detour": impl.Detour, "Vital": impl.Vital,
		"BansOk": impl.BansOk, "TurnOk": impl.TurnOk, "DistTurn": impl.DistTurn,
		"TreeOf": impl.TreeOf, "TreeOk": impl.TreeOk, "PathIn": impl.PathIn, "Under": impl.Under,
		"DiskOk": impl.DiskOk, "Do": impl.Do, "Sync": impl.Sync, "Crash": impl.Crash, "ReadFile": impl.ReadFile, "Replace": impl.Replace,
		"FrameOf": impl.FrameOf, "TakeFrames": impl.TakeFrames, "StoreView": impl.StoreView, "StoreDo": impl.StoreDo, "StorePlay": impl.StorePlay,
		"RunScript": impl.RunScript,
	}
}

func TestEveryFunctionIsHeldToTheSameAnswers(t *testing.T) {
	paths, err := filepath.Glob("../impl/*.go")
	if err != nil {
		t.Fatal(err)
	}
	var names []string
	for _, path := range paths {
		file, err := parser.ParseFile(token.NewFileSet(), path, nil, parser.SkipObjectResolution)
		if err != nil {
			t.Fatal(err)
		}
		for _, d := range file.Decls {
			if f, ok := d.(*ast.FuncDecl); ok && f.Recv == nil && f.Name.IsExported() {
				names = append(names, f.Name.Name)
			}
		}
	}
	slices.Sort(names)
	if held := slices.Sorted(maps.Keys(everyFunction())); !slices.Equal(names, held) {
		t.Errorf("there are %v; held are %v", names, held)
	}
}

// A pool has, of each type of an argument, some that go together.
type pool map[reflect.Type][]any

func (p pool) add(list ...any) {
	for _, x := range list {
		kind := reflect.TypeOf(x)
		p[kind] = append(p[kind], x)
	}
}

// any is one of that type.
func (p pool) any(r *numbers, kind reflect.Type) reflect.Value {
	list := p[kind]
	return reflect.ValueOf(list[r.below(len(list))])
}

func somePool(r *numbers) pool {
	p := pool{}
	g := smallGraph(r)
	wrong := wrongGraphs()
	p.add(g, g, g, g, g, g, impl.Reversed(g), wrong[r.below(len(wrong))].g)
	p.add(int64(-1), g.N, int64(r.below(10)), int64(r.below(far)), extremes[r.below(len(extremes))])
	for range 12 {
		p.add(int64(r.below(int(g.N))))
	}
	p.addOfGraph(r, g)
	p.addItems(r)
	p.addDisks(r)
	return p
}

// smallGraph is one that has ways, too, more often than not.
func smallGraph(r *numbers) impl.Graph {
	if r.below(4) == 0 {
		return randomGraph(r)
	}
	g := impl.Graph{N: int64(2 + r.below(7))}
	for u := range g.N {
		for v := range g.N {
			if u != v && len(g.Arcs) < 28 && r.below(2) == 0 {
				g.Arcs = append(g.Arcs, arc(u, v, int64(1+r.below(20))))
			}
		}
	}
	return g
}

func (p pool) addOfGraph(r *numbers, g impl.Graph) {
	s, t := int64(r.below(int(g.N))), int64(r.below(int(g.N)))
	some, all := someNodes(r, g, 1+r.below(4)), someNodes(r, g, int(g.N))
	path, _ := impl.PathOf(g, s, t)
	reach := impl.ReachOf(g)
	p.add(some, some, all, all, path, reach, reach, reach, impl.DistFrom(g, s), append(slices.Clone(some), g.N))
	near, _ := impl.HalfOf(g, s, int64(r.below(40)))
	whole, _ := impl.HalfOf(impl.Reversed(g), t, far)
	p.add(near, whole, impl.Half{})
	marks, _ := impl.MarksOf(g, some)
	order, _ := impl.OrderOf(g, all)
	level, _ := impl.OverlayOf(g, some)
	backwards := cloneLevel(level)
	slices.Reverse(backwards.Arcs)
	p.add(marks, marks, impl.Marks{Nodes: some}, order, order, impl.Order{Nodes: all}, level, level, backwards, impl.Level{Nodes: all})
	p.add(order.Cuts, someCuts(r, g, 5))
	pairs := impl.AllPairs(g)
	p.add(pairs, pairs, pairs[1:], rows(all, some, some[1:]), rows(some))
	bans := someBans(r, g, 6)
	p.add(bans, bans, append(slices.Clone(bans), ban(0, 0, 0)))
	tree, _ := impl.TreeOf(g, s)
	p.add(tree, tree, impl.Tree{Root: t, Up: path})
	p.add(impl.GraphText(g), impl.GraphText(g)+"x", ended(someScript(r, 30)), strings.Join(someScript(r, 5), "\n"))
}

func (p pool) addItems(r *numbers) {
	list := randomItems(r, r.below(9))
	heap, _ := impl.HeapOf(list)
	p.add(heap, heap, list)
	for _, x := range list {
		p.add(x, impl.Item{Key: x.Key, Id: 50 + x.Id}, x.Id, x.Id)
	}
	p.add(impl.Item{Key: int64(r.below(9)), Id: 99})
}

func (p pool) addDisks(r *numbers) {
	store, other := someStore(r), someDisk(r, r.below(6))
	p.add(store, store, other, other, impl.Disk{Live: other.Live, Ops: store.Ops})
	for _, d := range []impl.Disk{store, other} {
		// Of no more than some bytes, as what is longer than any is refused alone.
		keep, torn := []int64{}, int64(r.below(9))
		for place := range d.Ops {
			if r.below(3) > 0 {
				keep = append(keep, int64(place))
			}
		}
		p.add(keep, keep, torn)
		p.add(impl.Act{Kind: impl.AcCrash, Keep: keep, Torn: torn, Power: int64(r.below(12)) - 1}, someAct(r, d), someAct(r, d), impl.Act{Kind: 9})
		p.add([]impl.Act{someAct(r, d), {Kind: impl.AcCrash, Keep: keep, Torn: math.MaxInt64, Power: -1}, someAct(r, d)}, []impl.Act{})
		for _, f := range d.Live {
			p.add(f.Name, f.Data, renameOf(f.Name, "moved"), removeOf(f.Name))
		}
	}
	p.add(someOp(r), someOp(r), impl.DOp{}, "a", "new", frameByHand("two")+frameByHand("frames")+"torn")
}

// odd is a value that no argument and no answer has.
func odd(kind reflect.Type) reflect.Value {
	x := reflect.New(kind).Elem()
	switch kind.Kind() {
	case reflect.Int64:
		x.SetInt(-777)
	case reflect.String:
		x.SetString("odd")
	case reflect.Struct:
		for i := range kind.NumField() {
			x.Field(i).Set(odd(kind.Field(i).Type))
		}
	}
	return x
}

// copied is a copy that shares no memory, with so much room of odd values behind each of its lists.
func copied(x reflect.Value, room int) reflect.Value {
	y := reflect.New(x.Type()).Elem()
	switch x.Kind() {
	case reflect.Slice:
		if x.Len()+room == 0 {
			return y
		}
		y = reflect.MakeSlice(x.Type(), x.Len()+room, x.Len()+room)
		for i := range y.Len() {
			if i < x.Len() {
				y.Index(i).Set(copied(x.Index(i), room))
			} else {
				y.Index(i).Set(odd(x.Type().Elem()))
			}
		}
		return y.Slice(0, x.Len())
	case reflect.Struct:
		for i := range x.NumField() {
			y.Field(i).Set(copied(x.Field(i), room))
		}
		return y
	}
	y.Set(x)
	return y
}

// eachList tells x and each list in it, with the room behind it, the inner ones first.
func eachList(x reflect.Value, tell func(list reflect.Value)) {
	switch x.Kind() {
	case reflect.Slice:
		whole := x.Slice(0, x.Cap())
		for i := range whole.Len() {
			eachList(whole.Index(i), tell)
		}
		tell(whole)
	case reflect.Struct:
		for i := range x.NumField() {
			eachList(x.Field(i), tell)
		}
	}
}

// wholeOf has all lists of all of these, with the room behind them, as they are now.
func wholeOf(list []reflect.Value) []any {
	var whole []any
	for _, x := range list {
		eachList(x, func(l reflect.Value) { whole = append(whole, copied(l, 0).Interface()) })
	}
	return whole
}

func copiesOf(list []reflect.Value, room int) []reflect.Value {
	var copies []reflect.Value
	for _, x := range list {
		copies = append(copies, copied(x, room))
	}
	return copies
}

// valuesOf are told as they are compared: lists without anything are all one.
func valuesOf(list []reflect.Value) []any {
	var values []any
	for _, x := range copiesOf(list, 0) {
		values = append(values, x.Interface())
	}
	return values
}

// shareMemory tells whether two lists in these have a byte in common.
func shareMemory(values ...reflect.Value) bool {
	var parts [][2]uintptr
	for _, x := range values {
		eachList(x, func(l reflect.Value) {
			if l.Len() > 0 {
				parts = append(parts, [2]uintptr{l.Pointer(), l.Pointer() + uintptr(l.Len())*l.Type().Elem().Size()})
			}
		})
	}
	slices.SortFunc(parts, func(a [2]uintptr, b [2]uintptr) int { return cmp.Compare(a[0], b[0]) })
	for i := 1; i < len(parts); i++ {
		if parts[i][0] < parts[i-1][1] {
			return true
		}
	}
	return false
}

// A call is a function, its arguments, and what it answered.
type call struct {
	name  string
	f     reflect.Value
	given []reflect.Value
	told  []any
}

// again asks with those very arguments, and tells whether the answers are what they were.
func (c *call) again() bool {
	return reflect.DeepEqual(valuesOf(c.f.Call(c.given)), c.told)
}

// spoilt writes over all that was answered.
func spoilt(answers []reflect.Value) {
	for _, x := range answers {
		eachList(x, func(l reflect.Value) {
			for i := range l.Len() {
				l.Index(i).Set(odd(l.Type().Elem()))
			}
		})
	}
}

// hold asks with the same arguments again and again: many at once, with no room behind them, and behind what was spoilt.
func (c *call) hold(t *testing.T) {
	t.Helper()
	was := wholeOf(c.given)
	first := c.f.Call(c.given)
	c.told = valuesOf(first)
	if shareMemory(append(slices.Clone(c.given), first...)...) {
		t.Errorf("%s: the answers share memory", c.name)
	}
	spoilt(first)
	var all sync.WaitGroup
	for range 3 {
		all.Go(func() {
			if !c.again() {
				t.Errorf("%s: other answers to the same arguments", c.name)
			}
		})
	}
	all.Wait()
	if !reflect.DeepEqual(wholeOf(c.given), was) {
		t.Errorf("%s: an argument, or the room behind it, was written into", c.name)
	}
	bare := call{f: c.f, given: copiesOf(c.given, 0), told: c.told}
	if !bare.again() {
		t.Errorf("%s: other answers to arguments without room behind them", c.name)
	}
}

// TestTheSameArgumentsGiveTheSameAnswers asks every function with many arguments, and at the end all of that once more, backwards.
func TestTheSameArgumentsGiveTheSameAnswers(t *testing.T) {
	r := &numbers{state: 180}
	functions := everyFunction()
	var calls []*call
	kinds := map[string][][]any{}
	for range 400 {
		p := somePool(r)
		for _, name := range slices.Sorted(maps.Keys(functions)) {
			c := &call{name: name, f: reflect.ValueOf(functions[name])}
			for i := range c.f.Type().NumIn() {
				c.given = append(c.given, copied(p.any(r, c.f.Type().In(i)), 3))
			}
			c.hold(t)
			calls = append(calls, c)
			if !slices.ContainsFunc(kinds[name], func(told []any) bool { return reflect.DeepEqual(told, c.told) }) {
				kinds[name] = append(kinds[name], c.told)
			}
		}
	}
	for _, c := range slices.Backward(calls) {
		if !c.again() {
			t.Errorf("%s: other answers at the end", c.name)
		}
	}
	for name, f := range functions {
		few := 6
		if out := reflect.TypeOf(f); out.NumOut() == 1 && out.Out(0).Kind() == reflect.Bool {
			few = 2
		}
		if len(kinds[name]) < few {
			t.Errorf("%s: of all answers just %d are unlike", name, len(kinds[name]))
		}
	}
}
