package tests

import (
	"math"
	"slices"
	"strconv"
	"testing"

	"loop.example/g00546/impl"
)

// viewText is what is there; the base is never broken.
func viewText(t *testing.T, d impl.Disk) string {
	t.Helper()
	g, code := impl.StoreView(d)
	if code == impl.StNone && zeroGraph(g) {
		return "none"
	}
	if code != impl.StOk {
		t.Fatalf("code %d: %s", code, brief(d))
	}
	return impl.GraphText(g)
}

// A history is a disk, and what may be there behind a loss of power: what was there
// at the last sync or save, and behind each of the acts since.
type history struct {
	d   impl.Disk
	may []string
}

// everyLoss tells what each loss of power leaves, of a few ops at most.
func everyLoss(d impl.Disk, each func(keep []int64, torn int64)) {
	for _, keep := range keeps(len(d.Ops)) {
		for _, torn := range tornsOf(d, keep) {
			each(keep, torn)
		}
	}
}

// holdLosses holds what is there behind each loss of power, and that it stays when the disk is opened with any power, and power is lost again.
func (h *history) holdLosses(t *testing.T, r *numbers) {
	t.Helper()
	everyLoss(h.d, func(keep []int64, torn int64) {
		left, ok := impl.Crash(h.d, keep, torn)
		if !ok {
			t.Fatalf("no loss: %v, torn %d", keep, torn)
		}
		there := viewText(t, left)
		if !slices.Contains(h.may, there) {
			t.Fatalf("%v, torn %d: %q is none of %q", keep, torn, there, h.may)
		}
		if there == "none" || r.below(4) > 0 {
			return
		}
		opened, _ := impl.StoreDo(h.d, impl.Act{Kind: impl.AcCrash, Keep: keep, Torn: torn, Power: int64(r.below(10)) - 1})
		if viewText(t, opened) != there {
			t.Fatalf("%v, torn %d: opened it is %q, not %q", keep, torn, viewText(t, opened), there)
		}
		everyLoss(opened, func(keep []int64, torn int64) {
			if again, ok := impl.Crash(opened, keep, torn); !ok || viewText(t, again) != there {
				t.Fatalf("%v, torn %d: lost again it is %q, not %q", keep, torn, viewText(t, again), there)
			}
		})
	})
}

// act does one, and keeps account of what may be there then.
func (h *history) act(t *testing.T, a impl.Act) {
	t.Helper()
	good := storeByHand(h.d.Live).good
	e, code := impl.StoreDo(h.d, a)
	there := viewText(t, e)
	saves := a.Kind == impl.AcNew || a.Kind == impl.AcSave || a.Kind == impl.AcOpen && !good
	switch {
	case a.Kind == impl.AcCrash && code != impl.StForm:
		if !slices.Contains(h.may, there) {
			t.Fatalf("%v: %q is none of %q", a, there, h.may)
		}
		h.may = []string{there}
	case code == impl.StOk && (saves || a.Kind == impl.AcWeigh && a.Sync):
		h.may = []string{there}
	case code == impl.StOk && a.Kind == impl.AcWeigh || code == impl.StPower:
		h.may = append(h.may, there)
		// A save begins with a sync.
		if code == impl.StPower && a.Kind != impl.AcNew && a.Kind != impl.AcWeigh && a.Power > 0 {
			h.may = []string{there}
		}
	case !sameDisk(e, h.d):
		t.Fatalf("%v, code %d: the disk is not as it was", a, code)
	}
	h.d = e
}

func someAct(r *numbers, d impl.Disk) impl.Act {
	kinds := []int64{impl.AcNew, impl.AcWeigh, impl.AcWeigh, impl.AcWeigh, impl.AcWeigh, impl.AcWeigh, impl.AcSave, impl.AcSave, impl.AcOpen, impl.AcOpen, impl.AcCrash}
	a := impl.Act{Kind: kinds[r.below(len(kinds))], Sync: r.below(4) == 0, Power: -1}
	if r.below(2) == 0 {
		a.Power = int64(r.below(10))
	}
	a.Arc = arc(int64(r.below(3)), int64(r.below(3)), int64(r.below(4)))
	for place := range d.Ops {
		if r.below(2) == 0 {
			a.Keep = append(a.Keep, int64(place))
		}
	}
	a.Torn = []int64{0, 5, 12, math.MaxInt64}[r.below(4)]
	return a
}

func TestBehindAnyLossOfPowerThereIsWhatWasThere(t *testing.T) {
	r := &numbers{state: 163}
	for range 150 {
		h := &history{may: []string{"none"}}
		if r.below(3) == 0 {
			h.d = syncedDisk(file("base.new", "left"), logOf("1 0 1 3"), file("other", "x"))
		}
		for range 25 {
			a := someAct(r, h.d)
			// Else all places of keep would be too many to try.
			if len(h.d.Ops) > 4 {
				a.Kind = impl.AcCrash
			}
			h.act(t, a)
			h.holdLosses(t, r)
		}
	}
}

// TestBehindASaveThatWasCut tries each way to lose power in a save, then in the opening behind it, and then weighs.
func TestBehindASaveThatWasCut(t *testing.T) {
	now := ofThree(arc(0, 2, 9))
	want := impl.GraphText(now)
	files := []impl.File{baseOf("4", threeNodes), file("base.new", baseOf("3", threeNodes).Data[:20]), logOf("4 1 1 1", "5 0 2 9")}
	weighed, _ := impl.Weighed(now, 2, 0, 4)
	weigh := impl.Act{Kind: impl.AcWeigh, Arc: arc(2, 0, 4), Sync: true, Power: -1}
	tried := 0
	for power := range int64(9) {
		cut, _ := impl.StoreDo(syncedDisk(files...), impl.Act{Kind: impl.AcSave, Power: power})
		everyLoss(cut, func(keep []int64, torn int64) {
			for again := range int64(9) {
				left, code := impl.StoreDo(cut, impl.Act{Kind: impl.AcCrash, Keep: keep, Torn: torn, Power: -1})
				if code != impl.StOk {
					t.Fatal(code)
				}
				left, _ = impl.StoreDo(left, impl.Act{Kind: impl.AcSave, Power: again})
				everyLoss(left, func(keep []int64, torn int64) {
					last, ok := impl.Crash(left, keep, torn)
					if !ok || viewText(t, last) != want {
						t.Fatalf("%d, %d, %v, torn %d: %q", power, again, keep, torn, viewText(t, last))
					}
					if last, code = impl.StoreDo(last, weigh); code != impl.StOk || viewText(t, impl.Sync(last)) != impl.GraphText(weighed) {
						t.Fatalf("%d, %d, %v, torn %d: weighed %d", power, again, keep, torn, code)
					}
					tried++
				})
			}
		})
	}
	if tried < 1000 {
		t.Error(tried)
	}
}

// TestSomeFirstOnesOfTheActsSince holds which weighings are there when those that were not synced are kept or not.
func TestSomeFirstOnesOfTheActsSince(t *testing.T) {
	d := syncedDisk(baseOf("4", threeNodes))
	arcs := []impl.Arc{arc(0, 2, 1), arc(0, 2, 2), arc(0, 2, 0), arc(2, 0, 4)}
	for _, a := range arcs {
		e, code := impl.StoreDo(d, impl.Act{Kind: impl.AcWeigh, Arc: a, Power: -1})
		if code != impl.StOk {
			t.Fatal(code)
		}
		d = e
	}
	for _, keep := range keeps(len(arcs)) {
		first := 0
		for first < len(keep) && keep[first] == int64(first) {
			first++
		}
		for _, torn := range tornsOf(d, keep) {
			count, size := first, math.MaxInt
			if len(keep) > 0 {
				size = len(d.Ops[keep[len(keep)-1]].Data)
			}
			if first == len(keep) && torn < int64(size) {
				count = max(0, first-1)
			}
			left, ok := impl.Crash(d, keep, torn)
			if !ok {
				t.Fatal(keep)
			}
			holdView(t, "kept "+strconv.Itoa(len(keep)), left, ofThree(arcs[:count]...), impl.StOk)
		}
	}
}

// someStore is a disk with a base and a log that may be of any kind.
func someStore(r *numbers) impl.Disk {
	n := []int64{0, 1, 4, 9, 99, 999999997, 999999998, 999999999}[r.below(8)]
	var files []impl.File
	switch r.below(8) {
	case 0:
	case 1:
		broken := brokenBases()
		files = append(files, file("base", broken[r.below(len(broken))]))
	default:
		files = append(files, baseOf(strconv.FormatInt(n, 10), threeNodes))
	}
	if r.below(3) == 0 {
		files = append(files, file("base.new", []string{"", "left", baseOf("5", threeNodes).Data}[r.below(3)]))
	}
	log := logOf()
	at := max(0, n-int64(r.below(3)))
	for range r.below(5) {
		at++
		log.Data += someRecord(r, at)
	}
	if r.below(3) > 0 {
		files = append(files, log)
	}
	if r.below(4) == 0 {
		files = append(files, file("other", "x"))
	}
	d := syncedDisk(files...)
	for range r.below(3) {
		at++
		ops := []impl.DOp{appendOf("log", someRecord(r, at)), appendOf("log", someRecord(r, at)), appendOf("base", ""), appendOf("base.new", "more"), removeOf("base.new"), removeOf("log"), renameOf("base.new", "base"), appendOf("base", "more")}
		d, _ = doByHand(d, ops[r.below(len(ops))])
	}
	return d
}

// someRecord is mostly a frame of a right one.
func someRecord(r *numbers, n int64) string {
	record := recordByHand(n, arc(int64(r.below(3)), int64(r.below(3)), int64(r.below(5))))
	switch r.below(20) {
	case 0:
		return frameByHand(record)[:r.below(len(record)+8)]
	case 1:
		return frameByHand(record + " ")
	case 2:
		return frameByHand("0" + record)
	case 3:
		return frameByHand(strconv.FormatInt(n, 10))
	case 4:
		return ""
	}
	return frameByHand(record)
}

func TestStoresByHand(t *testing.T) {
	r := &numbers{state: 164}
	codes := map[int64]int{}
	for range 4000 {
		d := someStore(r)
		for range 8 {
			s := storeByHand(d.Live)
			if g, code := impl.StoreView(d); code != s.code || !sameGraph(g, s.g) {
				t.Fatalf("%s: %v %d, not %v", brief(d), g, code, s)
			}
			a := someAct(r, d)
			if r.below(20) == 0 {
				a.Kind = int64(r.below(8) - 1)
			}
			want, wantCode := storeDoByHand(d, a)
			e, code := impl.StoreDo(d, a)
			if code != wantCode || !sameDisk(e, want) {
				t.Fatalf("%v: code %d, not %d; %s, not %s", a, code, wantCode, brief(e), brief(want))
			}
			codes[code]++
			d = e
		}
	}
	for _, code := range []int64{impl.StOk, impl.StBad, impl.StForm, impl.StFull, impl.StPower, impl.StTorn, impl.StNone, impl.StNot} {
		if codes[code] < 50 {
			t.Errorf("code %d came only %d times", code, codes[code])
		}
	}
}

func TestPlaysByHand(t *testing.T) {
	r := &numbers{state: 165}
	for range 500 {
		d := someStore(r)
		want, first := d, d
		var acts []impl.Act
		var wantCodes []int64
		for range r.below(12) {
			a := someAct(r, want)
			e, code := storeDoByHand(want, a)
			want, acts, wantCodes = e, append(acts, a), append(wantCodes, code)
		}
		e, codes := impl.StorePlay(first, acts)
		if !slices.Equal(codes, wantCodes) || !sameDisk(e, want) {
			t.Fatalf("%v: %v, not %v; %s, not %s", acts, codes, wantCodes, brief(e), brief(want))
		}
	}
}

func TestAPlayOfManyActs(t *testing.T) {
	var acts []impl.Act
	want := []int64{impl.StOk}
	acts = append(acts, impl.Act{Kind: impl.AcNew, Arc: impl.Arc{W: 24}, Power: -1})
	for i := range int64(1000) {
		acts = append(acts, impl.Act{Kind: impl.AcWeigh, Arc: arc(i%24, (i+1)%24, 1+i), Sync: i%100 == 99, Power: -1})
		want = append(want, impl.StOk)
	}
	d, codes := impl.StorePlay(impl.Disk{}, acts)
	if s := storeByHand(d.Live); !slices.Equal(codes, want) || s.n != 1000 || !s.good || len(s.g.Arcs) != 24 {
		t.Error(codes)
	}
}

func TestJournalAnswersAreNewMemory(t *testing.T) {
	r := &numbers{state: 166}
	full := syncedDisk(append([]impl.File{baseOf("4", threeNodes)}, manyFiles(57)...)...)
	for i := range 40 {
		right := someStore(r)
		if i%10 == 0 {
			// With one file more there is no room for a base.new.
			right = behind(t, full, appendOf("log", "torn"[:i/10]))
		}
		right = behind(t, right, appendOf("other", "y"), renameOf("other", "other"))
		d, unchanged := guardedDisk(t, right)
		wrong, wrongUnchanged := guardedDisk(t, impl.Disk{Live: right.Live, Safe: right.Safe, Ops: append(slices.Clone(right.Ops), removeOf("none"))})
		keep, keepUnchanged := guarded(t, []int64{0}, 1)
		acts := []impl.Act{{}, {Kind: impl.AcNew, Arc: impl.Arc{W: 2}, Power: -1}}
		for _, power := range []int64{-1, 0, 1, 2, 3, 6} {
			acts = append(acts, impl.Act{Kind: impl.AcWeigh, Arc: arc(0, 2, 9), Power: power}, impl.Act{Kind: impl.AcSave, Power: power}, impl.Act{Kind: impl.AcOpen, Power: power},
				impl.Act{Kind: impl.AcCrash, Keep: keep, Torn: 9, Power: power}, impl.Act{Kind: impl.AcCrash, Keep: []int64{9}, Power: power})
		}
		asked := slices.Clone(acts)
		holdDisks(t, func() []impl.Disk {
			var list []impl.Disk
			for i, a := range acts {
				e, _ := impl.StoreDo(d, a)
				f, _ := impl.StoreDo(wrong, a)
				g, _ := impl.StorePlay(d, acts[:i])
				h, _ := impl.StorePlay(wrong, acts[:i])
				list = append(list, e, f, g, h)
			}
			return list
		})
		holdTwice(t, func() [][]int64 {
			_, codes := impl.StorePlay(d, acts)
			_, none := impl.StorePlay(wrong, acts)
			return [][]int64{codes, none}
		})
		holdViewTwice(t, d)
		for i, a := range acts {
			if a.Kind != asked[i].Kind || a.Arc != asked[i].Arc || !slices.Equal(a.Keep, asked[i].Keep) {
				t.Error("an act was changed", i)
			}
		}
		unchanged()
		wrongUnchanged()
		keepUnchanged()
	}
}

// holdViewTwice spoils the graph and the frames that are told, and asks again.
func holdViewTwice(t *testing.T, d impl.Disk) {
	t.Helper()
	g, code := impl.StoreView(d)
	was := slices.Clone(g.Arcs)
	spoil(g.Arcs, arc(9, 9, 9))
	if h, again := impl.StoreView(d); again != code || h.N != g.N || !slices.Equal(h.Arcs, was) {
		t.Errorf("%v was %v", h, was)
	}
	log, _ := impl.ReadFile(d, "log")
	l, end := impl.TakeFrames(log)
	told := slices.Clone(l)
	spoil(l, "spoilt")
	if m, again := impl.TakeFrames(log); again != end || !slices.Equal(m, told) {
		t.Errorf("%q was %q", m, told)
	}
}
