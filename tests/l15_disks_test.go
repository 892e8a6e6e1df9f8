package tests

import (
	"maps"
	"math"
	"slices"
	"strconv"
	"strings"
	"testing"

	"loop.example/g00546/impl"
)

func file(name string, data string) impl.File {
	return impl.File{Name: name, Data: data}
}

func appendOf(name string, data string) impl.DOp {
	return impl.DOp{Kind: impl.DkAppend, Name: name, Data: data}
}

func renameOf(name string, to string) impl.DOp {
	return impl.DOp{Kind: impl.DkRename, Name: name, To: to}
}

func removeOf(name string) impl.DOp {
	return impl.DOp{Kind: impl.DkRemove, Name: name}
}

// syncedDisk has these files, and nothing that may be lost.
func syncedDisk(files ...impl.File) impl.Disk {
	return impl.Disk{Live: slices.Clone(files), Safe: slices.Clone(files)}
}

func sameDisk(a impl.Disk, b impl.Disk) bool {
	return slices.Equal(a.Live, b.Live) && slices.Equal(a.Safe, b.Safe) && slices.Equal(a.Ops, b.Ops)
}

func zeroDisk(d impl.Disk) bool {
	return sameDisk(d, impl.Disk{})
}

// short is s as it is, or how long it is.
func short(s string) string {
	if len(s) > 40 {
		return strconv.Itoa(len(s)) + " bytes"
	}
	return strconv.Quote(s)
}

// brief tells of a disk what a test that fails has to say.
func brief(d impl.Disk) string {
	var words []string
	for i, files := range [][]impl.File{d.Live, d.Safe} {
		words = append(words, []string{"seen:", "safe:"}[i])
		for _, f := range files {
			words = append(words, short(f.Name), short(f.Data))
		}
	}
	words = append(words, "ops:", strconv.Itoa(len(d.Ops)))
	for _, op := range d.Ops[:min(len(d.Ops), 9)] {
		words = append(words, strconv.FormatInt(op.Kind, 10), short(op.Name), short(op.To), short(op.Data))
	}
	return strings.Join(words, " ")
}

// behind is d behind these ops, each of which must be done.
func behind(t *testing.T, d impl.Disk, ops ...impl.DOp) impl.Disk {
	t.Helper()
	for i, op := range ops {
		e, code := impl.Do(d, op)
		if code != impl.DkOk {
			t.Fatalf("op %d has code %d", i, code)
		}
		d = e
	}
	return d
}

// aDiskOf has so many ops behind d, each of which puts nothing behind the file.
func aDiskOf(d impl.Disk, name string, count int) impl.Disk {
	for range count {
		d.Ops = append(slices.Clip(d.Ops), appendOf(name, ""))
	}
	return d
}

// manyFiles are so many with a byte each, of names in order.
func manyFiles(count int) []impl.File {
	var files []impl.File
	for i := range count {
		files = append(files, file("f"+string(rune('A'+i/10))+string(rune('0'+i%10)), "x"))
	}
	return files
}

var (
	longName    = strings.Repeat("n", 100)
	tooLongName = strings.Repeat("n", 101)
	allBytes    = strings.Repeat("x", impl.MaxBytes)
)

// wrongForms are ops of no right form, each of which would do something with a file a if that did not count.
func wrongForms() []impl.DOp {
	list := []impl.DOp{
		{},
		{Name: "a"},
		{Kind: 4, Name: "a"},
		{Kind: 4, Name: "a", Data: "x"},
		{Kind: 4, Name: "a", To: "b"},
		{Kind: -1, Name: "a"},
		{Kind: 1<<32 + impl.DkAppend, Name: "a"},
		appendOf("", "x"),
		appendOf(tooLongName, "x"),
		renameOf("", "b"),
		renameOf(tooLongName, "b"),
		renameOf("a", ""),
		renameOf("a", tooLongName),
		removeOf(""),
		removeOf(tooLongName),
		{Kind: impl.DkAppend, Name: "a", To: "b", Data: "x"},
		{Kind: impl.DkAppend, Name: "a", To: "a"},
		{Kind: impl.DkRename, Name: "a", To: "b", Data: "x"},
		{Kind: impl.DkRename, Name: "a", To: "a", Data: "1"},
		{Kind: impl.DkRemove, Name: "a", To: "b"},
		{Kind: impl.DkRemove, Name: "a", To: "a"},
		{Kind: impl.DkRemove, Name: "a", Data: "x"},
	}
	for _, x := range extremes {
		list = append(list, impl.DOp{Kind: x, Name: "a"}, impl.DOp{Kind: x, Name: "a", To: "b"}, impl.DOp{Kind: x, Name: "a", Data: "x"})
	}
	return list
}

func formByHand(op impl.DOp) bool {
	long := func(name string) bool { return len(name) >= 1 && len(name) <= 100 }
	switch op.Kind {
	case 1:
		return long(op.Name) && len(op.To) == 0
	case 2:
		return long(op.Name) && long(op.To) && len(op.Data) == 0
	case 3:
		return long(op.Name) && len(op.To)+len(op.Data) == 0
	}
	return false
}

// A shelf has the data of the files by their names.
type shelf map[string]string

func shelfOf(files []impl.File) shelf {
	s := shelf{}
	for _, f := range files {
		s[f.Name] = f.Data
	}
	return s
}

func (s shelf) files() []impl.File {
	var files []impl.File
	for _, name := range slices.Sorted(maps.Keys(s)) {
		files = append(files, file(name, s[name]))
	}
	return files
}

func (s shelf) fits() bool {
	total := 0
	for _, data := range s {
		total += len(data)
	}
	return len(s) <= 60 && total <= 200000
}

// done is false, and does nothing, when there is no such file.
func (s shelf) done(op impl.DOp) bool {
	data, there := s[op.Name]
	switch {
	case op.Kind == 1:
		s[op.Name] = data + op.Data
	case !there:
		return false
	case op.Kind == 2:
		delete(s, op.Name)
		s[op.To] = data
	default:
		delete(s, op.Name)
	}
	return true
}

// filesByHand tells whether a disk may have these files.
func filesByHand(files []impl.File) bool {
	for _, f := range files {
		if len(f.Name) < 1 || len(f.Name) > 100 {
			return false
		}
	}
	// What is out of order, or there twice, is not the same when it comes from a shelf.
	return len(files) <= 60 && slices.Equal(files, shelfOf(files).files()) && shelfOf(files).fits()
}

func diskByHand(d impl.Disk) bool {
	if !filesByHand(d.Safe) || !filesByHand(d.Live) || len(d.Ops) > 200 {
		return false
	}
	s := shelfOf(d.Safe)
	for _, op := range d.Ops {
		if !formByHand(op) || !s.done(op) || !s.fits() {
			return false
		}
	}
	return maps.Equal(s, shelfOf(d.Live))
}

func doByHand(d impl.Disk, op impl.DOp) (impl.Disk, int64) {
	s := shelfOf(d.Live)
	switch {
	case !diskByHand(d):
		return impl.Disk{}, 1
	case !formByHand(op):
		return d, 2
	case !s.done(op):
		return d, 3
	case !s.fits() || len(d.Ops) >= 200:
		return d, 4
	}
	return impl.Disk{Live: s.files(), Safe: d.Safe, Ops: slices.Concat(d.Ops, []impl.DOp{op})}, 0
}

func crashByHand(d impl.Disk, keep []int64, torn int64) (impl.Disk, bool) {
	if !diskByHand(d) || torn < 0 {
		return impl.Disk{}, false
	}
	s := shelfOf(d.Safe)
	for i, place := range keep {
		if place < 0 || place >= int64(len(d.Ops)) || i > 0 && keep[i-1] >= place {
			return impl.Disk{}, false
		}
		op := d.Ops[place]
		if i+1 == len(keep) && torn < int64(len(op.Data)) {
			op.Data = op.Data[:torn]
		}
		s.done(op)
	}
	if !s.fits() {
		return impl.Disk{}, false
	}
	return syncedDisk(s.files()...), true
}

func replaceByHand(d impl.Disk, name string, data string) (impl.Disk, int64) {
	was, code := d, int64(0)
	if _, there := shelfOf(d.Live)[name+".new"]; there && diskByHand(d) {
		d, code = doByHand(d, removeOf(name+".new"))
	}
	for _, op := range []impl.DOp{appendOf(name+".new", data), renameOf(name+".new", name)} {
		if code == 0 {
			d, code = doByHand(d, op)
		}
	}
	if code == 1 {
		return impl.Disk{}, 1
	}
	if code != 0 {
		return was, code
	}
	return d, 0
}

// keeps are all lists of places of so many ops that rise.
func keeps(count int) [][]int64 {
	list := [][]int64{nil}
	for place := range int64(count) {
		for _, keep := range list {
			list = append(list, slices.Concat(keep, []int64{place}))
		}
	}
	return list
}

// tornsOf are from 0 to more than the data of the last op that is kept.
func tornsOf(d impl.Disk, keep []int64) []int64 {
	if len(keep) == 0 {
		return []int64{0, math.MaxInt64}
	}
	count := int64(len(d.Ops[keep[len(keep)-1]].Data))
	list := []int64{0, 1, count / 2, count - 1, count, count + 1, math.MaxInt64}
	slices.Sort(list)
	return slices.DeleteFunc(slices.Compact(list), func(torn int64) bool { return torn < 0 })
}

func someOp(r *numbers) impl.DOp {
	names := []string{"a", "b", "c", "a.new", "a.new.new", "\xff", longName}
	data := []string{"", "x", "yz", "\x00\x00", strings.Repeat("w", r.below(70)), strings.Repeat("v", r.below(impl.MaxBytes))}
	op := impl.DOp{Kind: int64(1 + r.below(3)), Name: names[r.below(len(names))]}
	if r.below(3) == 0 {
		op.Kind = impl.DkAppend
	}
	switch op.Kind {
	case impl.DkAppend:
		op.Data = data[r.below(len(data))]
	case impl.DkRename:
		op.To = names[r.below(len(names))]
	}
	return op
}

// someDisk is a right one with as many as so many ops, which were done by hand.
func someDisk(r *numbers, ops int) impl.Disk {
	var d impl.Disk
	for range r.below(8) {
		d, _ = doByHand(d, someOp(r))
	}
	d = syncedDisk(d.Live...)
	for range ops {
		d, _ = doByHand(d, someOp(r))
	}
	return d
}

func TestDisksAreAsLargeAsWritten(t *testing.T) {
	for i, pair := range [][2]int64{
		{impl.MaxFiles, 60}, {impl.MaxBytes, 200000}, {impl.MaxOps, 200},
		{impl.DkAppend, 1}, {impl.DkRename, 2}, {impl.DkRemove, 3},
		{impl.DkOk, 0}, {impl.DkDisk, 1}, {impl.DkForm, 2}, {impl.DkNone, 3}, {impl.DkFull, 4},
	} {
		if pair[0] != pair[1] {
			t.Errorf("%d: %d, not %d", i, pair[0], pair[1])
		}
	}
}

type namedDisk struct {
	name string
	d    impl.Disk
}

// lists puts the same wrong files into a disk as what is seen, as what is safe and as both, and behind an op that takes one of them away.
func lists(name string, files ...impl.File) []namedDisk {
	return []namedDisk{
		{name + ", in both", syncedDisk(files...)},
		{name + ", in Live", impl.Disk{Live: files}},
		{name + ", in Safe", impl.Disk{Safe: files}},
		{name + ", one gone", impl.Disk{Live: files[1:], Safe: files, Ops: []impl.DOp{removeOf(files[0].Name)}}},
	}
}

// wrongDisks has one for each reason for which a disk is not right.
func wrongDisks() []namedDisk {
	a := file("a", "1")
	full := manyFiles(60)
	list := slices.Concat(
		lists("an empty name", file("", "x")),
		lists("a name of 101 bytes", file(tooLongName, "x")),
		lists("a second name of 101 bytes", a, file(tooLongName, "x")),
		lists("61 files", manyFiles(61)...),
		lists("600 files", manyFiles(600)...),
		lists("one byte too many", file("a", allBytes+"x")),
		lists("one byte too many in two", file("a", allBytes), file("b", "x")),
		lists("one byte too many in three", file("a", ""), file("b", "x"), file("c", allBytes)),
		lists("out of order", file("b", "1"), a),
		lists("out of order at the end", a, file("c", "1"), file("b", "1")),
		lists("out of order as bytes", a, file("Z", "1")),
		lists("a longer name ahead", file("aa", "1"), a),
		lists("two of one name", a, file("a", "2")),
		lists("twice the same", a, a),
		lists("twice the same at the end", a, file("b", ""), file("b", "")),
	)
	for _, op := range wrongForms() {
		// What it would make of the file, or nothing.
		for _, live := range [][]impl.File{{a}, {file("a", "1x")}, {file("b", "1")}, nil, {a, file(tooLongName, "x")}, {file("", "x"), a}, {file("", "1")}, {file(tooLongName, "1")}} {
			list = append(list, namedDisk{"an op of a wrong form", impl.Disk{Live: live, Safe: []impl.File{a}, Ops: []impl.DOp{op}}})
		}
	}
	return append(list,
		namedDisk{"without an op", impl.Disk{Live: []impl.File{a}}},
		namedDisk{"gone without an op", impl.Disk{Safe: []impl.File{a}}},
		namedDisk{"other data without an op", impl.Disk{Live: []impl.File{a}, Safe: []impl.File{file("a", "2")}}},
		namedDisk{"another name without an op", impl.Disk{Live: []impl.File{a}, Safe: []impl.File{file("b", "1")}}},
		namedDisk{"an op that is not done", impl.Disk{Live: []impl.File{a}, Safe: []impl.File{a}, Ops: []impl.DOp{appendOf("a", "x")}}},
		namedDisk{"an op that is done twice", impl.Disk{Live: []impl.File{file("a", "1xx")}, Safe: []impl.File{a}, Ops: []impl.DOp{appendOf("a", "x")}}},
		namedDisk{"a file more", impl.Disk{Live: []impl.File{file("a", "1x"), file("b", "")}, Safe: []impl.File{a}, Ops: []impl.DOp{appendOf("a", "x")}}},
		namedDisk{"a file less", impl.Disk{Live: []impl.File{a}, Safe: []impl.File{a}, Ops: []impl.DOp{appendOf("b", "")}}},
		namedDisk{"the last op is not done", impl.Disk{Live: []impl.File{file("a", "1x")}, Safe: []impl.File{a}, Ops: []impl.DOp{appendOf("a", "x"), removeOf("a")}}},
		namedDisk{"in another order", impl.Disk{Live: []impl.File{file("a", "1xy")}, Safe: []impl.File{a}, Ops: []impl.DOp{appendOf("a", "y"), appendOf("a", "x")}}},
		namedDisk{"a remove that finds none", impl.Disk{Live: []impl.File{a}, Safe: []impl.File{a}, Ops: []impl.DOp{removeOf("b")}}},
		namedDisk{"a rename that finds none", impl.Disk{Live: []impl.File{a}, Safe: []impl.File{a}, Ops: []impl.DOp{renameOf("b", "c")}}},
		namedDisk{"a rename that finds none, onto one", impl.Disk{Live: []impl.File{a}, Safe: []impl.File{a}, Ops: []impl.DOp{renameOf("b", "a")}}},
		namedDisk{"one that finds none onto itself", impl.Disk{Ops: []impl.DOp{renameOf("b", "b")}}},
		namedDisk{"a remove of what is gone", impl.Disk{Safe: []impl.File{a}, Ops: []impl.DOp{removeOf("a"), removeOf("a")}}},
		namedDisk{"a remove of what is renamed", impl.Disk{Live: []impl.File{file("b", "1")}, Safe: []impl.File{a}, Ops: []impl.DOp{renameOf("a", "b"), removeOf("a")}}},
		namedDisk{"a remove ahead of the append", impl.Disk{Ops: []impl.DOp{removeOf("a"), appendOf("a", "")}}},
		namedDisk{"61 files at the end", impl.Disk{Live: append(manyFiles(60), file("z", "")), Safe: full, Ops: []impl.DOp{appendOf("z", "")}}},
		namedDisk{"one byte too many at the end", impl.Disk{Live: []impl.File{file("a", allBytes+"x")}, Safe: []impl.File{file("a", allBytes)}, Ops: []impl.DOp{appendOf("a", "x")}}},
		namedDisk{"61 files in between", impl.Disk{Live: full, Safe: full, Ops: []impl.DOp{appendOf("z", ""), removeOf("z")}}},
		namedDisk{"one byte too many in between", impl.Disk{Live: []impl.File{file("a", allBytes)}, Safe: []impl.File{file("a", allBytes)}, Ops: []impl.DOp{appendOf("b", "x"), removeOf("b")}}},
		namedDisk{"201 ops", aDiskOf(syncedDisk(a), "a", 201)},
		namedDisk{"2000 ops", aDiskOf(syncedDisk(a), "a", 2000)},
	)
}

func rightDisks() []namedDisk {
	a := file("a", "1")
	return []namedDisk{
		{"nothing", impl.Disk{}},
		{"empty lists", impl.Disk{Live: []impl.File{}, Safe: []impl.File{}, Ops: []impl.DOp{}}},
		{"no bytes", syncedDisk(file("a", ""))},
		{"names of 1 and of 100 bytes", syncedDisk(a, file(longName, "x"))},
		{"60 files", syncedDisk(manyFiles(60)...)},
		{"all bytes", syncedDisk(file("a", allBytes))},
		{"all bytes in three", syncedDisk(file("a", allBytes[1:]), file("b", ""), file("c", "x"))},
		{"in order as bytes", syncedDisk(file("\x00", ""), file("\n", "2"), file("A", ""), file("Z", ""), a, file("a\x00", ""), file("aa", ""), file("\x80", ""), file("\xff", ""), file("\xff\xff", ""))},
		{"appended", impl.Disk{Live: []impl.File{file("a", "1x")}, Safe: []impl.File{a}, Ops: []impl.DOp{appendOf("a", "x")}}},
		{"nothing appended", impl.Disk{Live: []impl.File{a}, Safe: []impl.File{a}, Ops: []impl.DOp{appendOf("a", "")}}},
		{"put there", impl.Disk{Live: []impl.File{a, file(longName, "")}, Safe: []impl.File{a}, Ops: []impl.DOp{appendOf(longName, "")}}},
		{"renamed", impl.Disk{Live: []impl.File{file(longName, "1")}, Safe: []impl.File{a}, Ops: []impl.DOp{renameOf("a", longName)}}},
		{"renamed onto itself", impl.Disk{Live: []impl.File{a}, Safe: []impl.File{a}, Ops: []impl.DOp{renameOf("a", "a")}}},
		{"renamed onto another one", impl.Disk{Live: []impl.File{file("b", "1")}, Safe: []impl.File{a, file("b", "2")}, Ops: []impl.DOp{renameOf("a", "b")}}},
		{"removed", impl.Disk{Safe: []impl.File{a}, Ops: []impl.DOp{removeOf("a")}}},
		{"removed and there again", impl.Disk{Live: []impl.File{a}, Safe: []impl.File{a}, Ops: []impl.DOp{removeOf("a"), appendOf("a", "1")}}},
		{"all bytes in between", impl.Disk{Live: []impl.File{a}, Safe: []impl.File{a}, Ops: []impl.DOp{appendOf("b", allBytes[1:]), removeOf("b")}}},
		{"60 files in between", impl.Disk{Live: manyFiles(59), Safe: manyFiles(59), Ops: []impl.DOp{appendOf("z", ""), removeOf("z")}}},
		{"200 ops", aDiskOf(syncedDisk(a), "a", 200)},
	}
}

func TestDisksThatAreRight(t *testing.T) {
	for _, x := range rightDisks() {
		if !impl.DiskOk(x.d) || !diskByHand(x.d) {
			t.Error(x.name)
		}
	}
	for _, x := range wrongDisks() {
		if impl.DiskOk(x.d) || diskByHand(x.d) {
			t.Error(x.name)
		}
	}
}

func TestOpsAsWritten(t *testing.T) {
	d := syncedDisk(file("a", "1"), file("b", "2"))
	for i, c := range []struct {
		op   impl.DOp
		want []impl.File
	}{
		{appendOf("a", "xy"), []impl.File{file("a", "1xy"), file("b", "2")}},
		{appendOf("b", "\x00\n"), []impl.File{file("a", "1"), file("b", "2\x00\n")}},
		{appendOf("a", ""), []impl.File{file("a", "1"), file("b", "2")}},
		// One that is not there, behind, in between, ahead.
		{appendOf("c", "x"), []impl.File{file("a", "1"), file("b", "2"), file("c", "x")}},
		{appendOf("aa", "x"), []impl.File{file("a", "1"), file("aa", "x"), file("b", "2")}},
		{appendOf("A", ""), []impl.File{file("A", ""), file("a", "1"), file("b", "2")}},
		{appendOf(longName, "x"), []impl.File{file("a", "1"), file("b", "2"), file(longName, "x")}},
		{appendOf("\xff", "x"), []impl.File{file("a", "1"), file("b", "2"), file("\xff", "x")}},
		// To another name, onto another one, onto itself.
		{renameOf("a", "c"), []impl.File{file("b", "2"), file("c", "1")}},
		{renameOf("b", "A"), []impl.File{file("A", "2"), file("a", "1")}},
		{renameOf("b", longName), []impl.File{file("a", "1"), file(longName, "2")}},
		{renameOf("a", "b"), []impl.File{file("b", "1")}},
		{renameOf("b", "a"), []impl.File{file("a", "2")}},
		{renameOf("a", "a"), []impl.File{file("a", "1"), file("b", "2")}},
		{renameOf("b", "b"), []impl.File{file("a", "1"), file("b", "2")}},
		{removeOf("a"), []impl.File{file("b", "2")}},
		{removeOf("b"), []impl.File{file("a", "1")}},
	} {
		e, code := impl.Do(d, c.op)
		if code != impl.DkOk || !sameDisk(e, impl.Disk{Live: c.want, Safe: d.Safe, Ops: []impl.DOp{c.op}}) || !impl.DiskOk(e) {
			t.Errorf("%d: %s %d", i, brief(e), code)
		}
		if s := impl.Sync(e); !sameDisk(s, syncedDisk(c.want...)) {
			t.Errorf("%d: synced it is %s", i, brief(s))
		}
	}
}

func TestOpsOneBehindTheOther(t *testing.T) {
	ops := []impl.DOp{appendOf("a", "xy"), removeOf("b"), renameOf("a", "b"), appendOf("a", "z"), renameOf("b", "b"), appendOf("b", ""), appendOf("a", "z")}
	d := behind(t, syncedDisk(file("a", "1"), file("b", "2")), ops...)
	want := impl.Disk{Live: []impl.File{file("a", "zz"), file("b", "1xy")}, Safe: []impl.File{file("a", "1"), file("b", "2")}, Ops: ops}
	if !sameDisk(d, want) {
		t.Error(brief(d))
	}
	d = behind(t, impl.Sync(d), removeOf("a"))
	if !sameDisk(d, impl.Disk{Live: []impl.File{file("b", "1xy")}, Safe: want.Live, Ops: []impl.DOp{removeOf("a")}}) {
		t.Error(brief(d))
	}
	if e := impl.Sync(impl.Sync(d)); !sameDisk(e, syncedDisk(file("b", "1xy"))) {
		t.Error(brief(e))
	}
	if e := impl.Sync(impl.Disk{}); !zeroDisk(e) {
		t.Error(brief(e))
	}
}

// holdCode holds that the op is refused so, and the disk is as it was.
func holdCode(t *testing.T, name string, d impl.Disk, op impl.DOp, want int64) {
	t.Helper()
	e, code := impl.Do(d, op)
	if code != want || !sameDisk(e, d) {
		t.Errorf("%s: code %d, not %d, and %d files, %d ops", name, code, want, len(e.Live), len(e.Ops))
	}
}

func TestOpsThatAreRefused(t *testing.T) {
	a := file("a", "1")
	plain := behind(t, syncedDisk(a), appendOf("b", "2"))
	full := aDiskOf(syncedDisk(a), "a", 200)
	many := syncedDisk(manyFiles(60)...)
	large := syncedDisk(file("a", "1"), file("b", allBytes[1:]))
	for _, op := range wrongForms() {
		for _, d := range []impl.Disk{{}, plain, full, many, large} {
			holdCode(t, "form", d, op, impl.DkForm)
		}
	}
	for _, name := range []string{"c", "aa", "A", "a\x00", longName, "\xff"} {
		for _, d := range []impl.Disk{{}, plain, full, many, large} {
			holdCode(t, "remove of none", d, removeOf(name), impl.DkNone)
			holdCode(t, "rename of none", d, renameOf(name, "d"), impl.DkNone)
			holdCode(t, "rename of none onto one", d, renameOf(name, "a"), impl.DkNone)
			holdCode(t, "rename of none onto itself", d, renameOf(name, name), impl.DkNone)
		}
	}
	holdCode(t, "gone", behind(t, plain, removeOf("a")), removeOf("a"), impl.DkNone)
	holdCode(t, "renamed", behind(t, plain, renameOf("a", "c")), renameOf("a", "c"), impl.DkNone)
	for _, op := range []impl.DOp{appendOf("a", ""), appendOf("c", "x"), renameOf("a", "b"), renameOf("a", "a"), removeOf("a")} {
		holdCode(t, "201 ops", full, op, impl.DkFull)
		if d, code := impl.Do(aDiskOf(syncedDisk(a), "a", 199), op); code != impl.DkOk || len(d.Ops) != 200 {
			t.Error("200 ops", code, len(d.Ops))
		}
	}
}

func TestOpsThatDoNotFit(t *testing.T) {
	many := syncedDisk(manyFiles(60)...)
	large := syncedDisk(file("a", "1"), file("b", allBytes[1:]))
	for _, op := range []impl.DOp{appendOf("a", ""), appendOf("z", "x"), appendOf("f", "")} {
		holdCode(t, "61 files", many, op, impl.DkFull)
	}
	for _, op := range []impl.DOp{appendOf("a", "x"), appendOf("b", "x"), appendOf("c", "x"), appendOf("c", allBytes)} {
		holdCode(t, "too many bytes", large, op, impl.DkFull)
	}
	holdCode(t, "more than all bytes", impl.Disk{}, appendOf("a", allBytes+"x"), impl.DkFull)
	for _, op := range []impl.DOp{appendOf("fA0", "xy"), renameOf("fA0", "z"), renameOf("fA0", "fA1"), renameOf("fF9", "fF9"), removeOf("fC3")} {
		behind(t, many, op)
	}
	for _, op := range []impl.DOp{appendOf("a", ""), appendOf("c", ""), renameOf("a", "b"), renameOf("b", "b"), renameOf("b", "z"), removeOf("a")} {
		behind(t, large, op)
	}
	behind(t, impl.Disk{}, appendOf("a", allBytes))
	behind(t, syncedDisk(file("a", "1")), appendOf("a", allBytes[1:]))
	behind(t, syncedDisk(manyFiles(59)...), appendOf("z", "x"))
	// What is gone makes room.
	behind(t, large, removeOf("b"), appendOf("a", allBytes[1:]))
	behind(t, large, renameOf("a", "b"), appendOf("c", allBytes[1:]))
	behind(t, many, removeOf("fA0"), appendOf("z", ""))
	behind(t, many, renameOf("fA0", "fA1"), appendOf("z", ""))
}

func TestWrongDisksAreRefused(t *testing.T) {
	ops := []impl.DOp{appendOf("a", "x"), renameOf("a", "b"), removeOf("a"), removeOf("zz"), {}, appendOf("b", allBytes)}
	for _, x := range wrongDisks() {
		for _, op := range ops {
			if d, code := impl.Do(x.d, op); code != impl.DkDisk || !zeroDisk(d) {
				t.Errorf("%s: Do %s %d", x.name, brief(d), code)
			}
		}
		if d := impl.Sync(x.d); !zeroDisk(d) {
			t.Errorf("%s: Sync %s", x.name, brief(d))
		}
		for _, keep := range [][]int64{nil, {0}, {-1}} {
			for _, torn := range []int64{0, 9, -1} {
				if d, ok := impl.Crash(x.d, keep, torn); ok || !zeroDisk(d) {
					t.Errorf("%s: Crash %s", x.name, brief(d))
				}
			}
		}
		for _, name := range []string{"a", "b", "", "c", "fA0", tooLongName} {
			if data, ok := impl.ReadFile(x.d, name); ok || data != "" {
				t.Errorf("%s: ReadFile %d bytes", x.name, len(data))
			}
			if d, code := impl.Replace(x.d, name, "new"); code != impl.DkDisk || !zeroDisk(d) {
				t.Errorf("%s: Replace %s %d", x.name, brief(d), code)
			}
		}
	}
}

func TestFilesThatAreRead(t *testing.T) {
	d := behind(t, syncedDisk(file("a", "1"), file("b", "2"), file("c", "")), appendOf("a", "x"), removeOf("b"), appendOf("d", "4"), renameOf("d", longName))
	for name, want := range map[string]string{"a": "1x", "c": "", longName: "4"} {
		if data, ok := impl.ReadFile(d, name); !ok || data != want {
			t.Errorf("%s: %s %v", short(name), short(data), ok)
		}
	}
	for _, name := range []string{"b", "d", "", "A", "aa", "a\x00", "\xff", tooLongName, allBytes} {
		if data, ok := impl.ReadFile(d, name); ok || data != "" {
			t.Errorf("%s: %s %v", short(name), short(data), ok)
		}
	}
	if data, ok := impl.ReadFile(impl.Disk{}, "a"); ok || data != "" {
		t.Error(data, ok)
	}
}

func TestCrashesAsWritten(t *testing.T) {
	a, b := file("a", "1"), file("b", "2")
	d := behind(t, syncedDisk(a, b), appendOf("a", "xyz"), appendOf("c", "q"), renameOf("c", "b"), removeOf("a"), appendOf("d", "tail"), renameOf("d", "d"))
	for i, c := range []struct {
		keep []int64
		torn int64
		want []impl.File
	}{
		{nil, 0, []impl.File{a, b}},
		{[]int64{}, math.MaxInt64, []impl.File{a, b}},
		{[]int64{0, 1, 2, 3, 4, 5}, 0, []impl.File{file("b", "q"), file("d", "tail")}},
		// Torn: none of it, some, all, more.
		{[]int64{0}, 0, []impl.File{a, b}},
		{[]int64{0}, 1, []impl.File{file("a", "1x"), b}},
		{[]int64{0}, 2, []impl.File{file("a", "1xy"), b}},
		{[]int64{0}, 3, []impl.File{file("a", "1xyz"), b}},
		{[]int64{0}, 4, []impl.File{file("a", "1xyz"), b}},
		{[]int64{0}, math.MaxInt64, []impl.File{file("a", "1xyz"), b}},
		// A file of which none of the data is kept is there all the same.
		{[]int64{1}, 0, []impl.File{a, b, file("c", "")}},
		{[]int64{1}, 1, []impl.File{a, b, file("c", "q")}},
		// Only the last one that is kept is torn, and only an append.
		{[]int64{0, 1}, 0, []impl.File{file("a", "1xyz"), b, file("c", "")}},
		{[]int64{0, 1, 4}, 3, []impl.File{file("a", "1xyz"), b, file("c", "q"), file("d", "tai")}},
		{[]int64{1, 2}, 0, []impl.File{a, file("b", "q")}},
		{[]int64{0, 3}, 0, []impl.File{b}},
		{[]int64{4, 5}, 0, []impl.File{a, b, file("d", "tail")}},
		{[]int64{0, 1, 2, 3, 4}, 1, []impl.File{file("b", "q"), file("d", "t")}},
		// What was to be renamed is not there; nothing is done then.
		{[]int64{2}, 9, []impl.File{a, b}},
		{[]int64{0, 2}, 0, []impl.File{file("a", "1xyz"), b}},
		{[]int64{2, 3, 5}, 0, []impl.File{b}},
		{[]int64{5}, 0, []impl.File{a, b}},
		{[]int64{2, 4}, 4, []impl.File{a, b, file("d", "tail")}},
		{[]int64{3}, 9, []impl.File{b}},
	} {
		e, ok := impl.Crash(d, c.keep, c.torn)
		if !ok || !sameDisk(e, syncedDisk(c.want...)) {
			t.Errorf("%d: %s %v", i, brief(e), ok)
		}
	}
	// A remove of what came by a rename that is lost, and one of what came there anew.
	d = behind(t, syncedDisk(a), renameOf("a", "b"), removeOf("b"), appendOf("b", "4"), removeOf("b"))
	for i, c := range []struct {
		keep []int64
		want []impl.File
	}{{[]int64{1}, []impl.File{a}}, {[]int64{3}, []impl.File{a}}, {[]int64{0, 3}, nil}, {[]int64{2, 3}, []impl.File{a}}, {[]int64{1, 2}, []impl.File{a, file("b", "4")}}, {[]int64{0, 2}, []impl.File{file("b", "14")}}} {
		if e, ok := impl.Crash(d, c.keep, 9); !ok || !sameDisk(e, syncedDisk(c.want...)) {
			t.Errorf("%d: %s %v", i, brief(e), ok)
		}
	}
	if e, ok := impl.Crash(impl.Disk{}, nil, 0); !ok || !zeroDisk(e) {
		t.Error(brief(e), ok)
	}
}

func TestCrashesThatAreNone(t *testing.T) {
	d := behind(t, syncedDisk(file("a", "1")), appendOf("a", "2"), renameOf("a", "b"), appendOf("c", "3"))
	none := func(d impl.Disk, keep []int64, torn int64) {
		t.Helper()
		if e, ok := impl.Crash(d, keep, torn); ok || !zeroDisk(e) {
			t.Errorf("%v, torn %d: %s %v", keep[:min(len(keep), 9)], torn, brief(e), ok)
		}
	}
	for _, keep := range [][]int64{{0, 0}, {1, 0}, {0, 2, 1}, {0, 1, 1}, {2, 2}, {0, 1, 2, 3}, {3}, {0, 3}, {-1}, {-1, 0}, {0, -1}, slices.Repeat([]int64{1}, 100000)} {
		none(d, keep, 0)
		none(d, keep, 9)
	}
	for _, x := range extremes {
		none(d, []int64{x}, 0)
		none(d, []int64{0, x}, 0)
		none(d, []int64{x, 0}, 0)
		if x < 0 {
			none(d, nil, x)
			none(d, []int64{0}, x)
			none(d, []int64{0, 1}, x)
			none(impl.Disk{}, nil, x)
		}
	}
	none(impl.Disk{}, []int64{0}, 0)
	none(syncedDisk(file("a", "1")), []int64{0}, 0)
}

func TestCrashesThatDoNotFit(t *testing.T) {
	holds := func(d impl.Disk, keep []int64, torn int64, want bool) {
		t.Helper()
		e, ok := impl.Crash(d, keep, torn)
		if byHand, _ := crashByHand(d, keep, torn); ok != want || !sameDisk(e, byHand) {
			t.Errorf("%v, torn %d: %v", keep, torn, ok)
		}
	}
	// What made room is lost.
	d := behind(t, syncedDisk(file("a", allBytes)), removeOf("a"), appendOf("b", "xy"), appendOf("b", allBytes[2:]), renameOf("b", "a"))
	for torn, want := range []bool{true, false, false, false} {
		holds(d, []int64{1}, int64(torn), want)
		holds(d, []int64{0, 1}, int64(torn), true)
	}
	holds(d, []int64{1, 2}, math.MaxInt64, false)
	holds(d, []int64{0, 1, 2}, math.MaxInt64, true)
	// At the end there are not too many, though there were.
	holds(d, []int64{1, 2, 3}, 0, true)
	holds(d, []int64{2, 3}, 0, true)
	d = behind(t, syncedDisk(manyFiles(60)...), removeOf("fA0"), appendOf("y", ""), removeOf("fA1"), appendOf("z", ""))
	for _, c := range []struct {
		keep []int64
		want bool
	}{{[]int64{0}, true}, {[]int64{1}, false}, {[]int64{0, 1}, true}, {[]int64{1, 2}, true}, {[]int64{1, 2, 3}, false}, {[]int64{3}, false}, {[]int64{2, 3}, true}, {[]int64{0, 1, 2, 3}, true}} {
		holds(d, c.keep, 0, c.want)
	}
}

func TestReplacesAsWritten(t *testing.T) {
	a, b := file("a", "1"), file("b", "2")
	for i, c := range []struct {
		d    impl.Disk
		name string
		ops  []impl.DOp
		want []impl.File
	}{
		{syncedDisk(a, b), "a", []impl.DOp{appendOf("a.new", "xy"), renameOf("a.new", "a")}, []impl.File{file("a", "xy"), b}},
		{syncedDisk(b), "a", []impl.DOp{appendOf("a.new", "xy"), renameOf("a.new", "a")}, []impl.File{file("a", "xy"), b}},
		{impl.Disk{}, "a", []impl.DOp{appendOf("a.new", "xy"), renameOf("a.new", "a")}, []impl.File{file("a", "xy")}},
		{syncedDisk(a, file("a.new", "3"), b), "a", []impl.DOp{removeOf("a.new"), appendOf("a.new", "xy"), renameOf("a.new", "a")}, []impl.File{file("a", "xy"), b}},
		{syncedDisk(a, file("a.new", ""), b), "a", []impl.DOp{removeOf("a.new"), appendOf("a.new", "xy"), renameOf("a.new", "a")}, []impl.File{file("a", "xy"), b}},
		{syncedDisk(a, file("a.ne", "3"), file("anew", "4")), "a", []impl.DOp{appendOf("a.new", "xy"), renameOf("a.new", "a")}, []impl.File{file("a", "xy"), file("a.ne", "3"), file("anew", "4")}},
		{syncedDisk(a, file("a.new", "3"), b), "a.new", []impl.DOp{appendOf("a.new.new", "xy"), renameOf("a.new.new", "a.new")}, []impl.File{a, file("a.new", "xy"), b}},
		{impl.Disk{}, longName[:96], []impl.DOp{appendOf(longName[:96]+".new", "xy"), renameOf(longName[:96]+".new", longName[:96])}, []impl.File{file(longName[:96], "xy")}},
	} {
		e, code := impl.Replace(c.d, c.name, "xy")
		if code != impl.DkOk || !sameDisk(e, impl.Disk{Live: c.want, Safe: c.d.Safe, Ops: c.ops}) || !impl.DiskOk(e) {
			t.Errorf("%d: %s %d", i, brief(e), code)
		}
		// What is seen counts, not what is safe.
		was := behind(t, syncedDisk(b), appendOf("a.new", "3"), removeOf("b"))
		e, code = impl.Replace(was, "a", "")
		if want := slices.Concat(was.Ops, []impl.DOp{removeOf("a.new"), appendOf("a.new", ""), renameOf("a.new", "a")}); code != impl.DkOk || !sameDisk(e, impl.Disk{Live: []impl.File{file("a", "")}, Safe: was.Safe, Ops: want}) {
			t.Error(brief(e), code)
		}
	}
	gone := behind(t, syncedDisk(file("a.new", "3")), removeOf("a.new"))
	if e, code := impl.Replace(gone, "a", "x"); code != impl.DkOk || len(e.Ops) != 3 {
		t.Error(brief(e), code)
	}
}

func TestReplacesThatAreRefused(t *testing.T) {
	a, fresh := file("a", "1"), file("a.new", "2")
	for i, c := range []struct {
		d    impl.Disk
		name string
		data string
		want int64
	}{
		{syncedDisk(a), longName[:97], "x", impl.DkForm},
		{syncedDisk(a), longName, "x", impl.DkForm},
		{syncedDisk(a, file(longName[:97], "1")), longName[:97], "x", impl.DkForm},
		{syncedDisk(a), tooLongName, "x", impl.DkForm},
		{syncedDisk(a), strings.Repeat(longName, 1000), "x", impl.DkForm},
		// The append of ".new" is done, the rename of it to nothing is not.
		{syncedDisk(a), "", "x", impl.DkForm},
		{syncedDisk(file(".new", "1"), a), "", "x", impl.DkForm},
		{aDiskOf(syncedDisk(a), "a", 199), "", "x", impl.DkForm},
		{aDiskOf(syncedDisk(a), "a", 200), "", "x", impl.DkFull},
		{aDiskOf(syncedDisk(a), "a", 197), "a", "x", impl.DkOk},
		{aDiskOf(syncedDisk(a), "a", 198), "a", "x", impl.DkOk},
		{aDiskOf(syncedDisk(a), "a", 199), "a", "x", impl.DkFull},
		{aDiskOf(syncedDisk(a), "a", 200), "a", "x", impl.DkFull},
		{aDiskOf(syncedDisk(a), "a", 200), longName, "x", impl.DkForm},
		{aDiskOf(syncedDisk(a, fresh), "a", 197), "a", "x", impl.DkOk},
		{aDiskOf(syncedDisk(a, fresh), "a", 198), "a", "x", impl.DkFull},
		{aDiskOf(syncedDisk(a, fresh), "a", 199), "a", "x", impl.DkFull},
		{aDiskOf(syncedDisk(a, fresh), "a", 200), "a", "x", impl.DkFull},
		// Both are there for a while.
		{syncedDisk(a), "a", allBytes[1:], impl.DkOk},
		{syncedDisk(a), "a", allBytes, impl.DkFull},
		{impl.Disk{}, "a", allBytes, impl.DkOk},
		{impl.Disk{}, "a", allBytes + "x", impl.DkFull},
		{syncedDisk(a, fresh), "a", allBytes[1:], impl.DkOk},
		{syncedDisk(a, fresh), "a", allBytes, impl.DkFull},
		{syncedDisk(manyFiles(60)...), "fA0", "x", impl.DkFull},
		{syncedDisk(manyFiles(59)...), "fA0", "x", impl.DkOk},
		{syncedDisk(append([]impl.File{a, fresh}, manyFiles(58)...)...), "a", "x", impl.DkOk},
	} {
		e, code := impl.Replace(c.d, c.name, c.data)
		if code != c.want || code != impl.DkOk && !sameDisk(e, c.d) {
			t.Errorf("%d: code %d, not %d, and %d ops", i, code, c.want, len(e.Ops))
		}
		if byHand, want := replaceByHand(c.d, c.name, c.data); want != code || !sameDisk(e, byHand) {
			t.Errorf("%d: code %d, by hand %d", i, code, want)
		}
	}
}

func TestAllOpsKeptAreWhatWasSeenAndNoneWhatWasSynced(t *testing.T) {
	r := &numbers{state: 151}
	for i := range 400 {
		d := someDisk(r, r.below(12))
		var all []int64
		for place := range d.Ops {
			all = append(all, int64(place))
		}
		if !impl.DiskOk(d) {
			t.Fatal(i)
		}
		if e, ok := impl.Crash(d, all, math.MaxInt64); !ok || !sameDisk(e, syncedDisk(d.Live...)) || !sameDisk(e, impl.Sync(d)) {
			t.Fatalf("%d: all %v", i, ok)
		}
		for _, torn := range []int64{0, 1, math.MaxInt64} {
			if e, ok := impl.Crash(d, nil, torn); !ok || !sameDisk(e, syncedDisk(d.Safe...)) {
				t.Fatalf("%d: none %v", i, ok)
			}
		}
		if e, ok := impl.Crash(impl.Sync(d), nil, 0); !ok || !sameDisk(e, impl.Sync(d)) {
			t.Fatalf("%d: synced %v", i, ok)
		}
	}
}

func TestWhatIsDoneIsSeen(t *testing.T) {
	r := &numbers{state: 152}
	for range 1500 {
		d, op := someDisk(r, r.below(6)), someOp(r)
		before, was := impl.ReadFile(d, op.Name)
		e, code := impl.Do(d, op)
		if code != impl.DkOk {
			continue
		}
		data, there := impl.ReadFile(e, op.Name)
		moved, isTo := impl.ReadFile(e, op.To)
		seen := map[int64]bool{
			impl.DkAppend: there && data == before+op.Data,
			impl.DkRename: was && isTo && moved == before && there == (op.Name == op.To),
			impl.DkRemove: was && !there,
		}
		if !seen[op.Kind] {
			t.Fatalf("%d %s: %s, was %s", op.Kind, short(op.Name), brief(e), brief(d))
		}
		for _, f := range d.Live {
			if data, there := impl.ReadFile(e, f.Name); f.Name != op.Name && f.Name != op.To && (!there || data != f.Data) {
				t.Fatalf("%d %s: %s is not as it was", op.Kind, short(op.Name), short(f.Name))
			}
		}
	}
}

func TestWhatIsReplacedIsTheOldOneOrTheNewOne(t *testing.T) {
	r := &numbers{state: 153}
	for range 300 {
		d := impl.Sync(someDisk(r, 3))
		name := []string{"a", "b", "a.new", "\xff", "none"}[r.below(5)]
		if _, there := impl.ReadFile(d, name+".new"); there {
			continue
		}
		old, was := impl.ReadFile(d, name)
		fresh := strings.Repeat("new", r.below(4))
		e, code := impl.Replace(d, name, fresh)
		if code == impl.DkFull {
			continue
		}
		if data, there := impl.ReadFile(e, name); code != impl.DkOk || !there || data != fresh {
			t.Fatal(code, short(data))
		}
		for _, keep := range keeps(len(e.Ops)) {
			for _, torn := range tornsOf(e, keep) {
				left, ok := impl.Crash(e, keep, torn)
				data, there := impl.ReadFile(left, name)
				if !ok || !(there && data == fresh) && !(there == was && data == old) {
					t.Fatalf("%v, torn %d: %v %s", keep, torn, ok, short(data))
				}
				if len(keep) == 2 && data != fresh || len(keep) < 2 && data != old {
					t.Fatalf("%v, torn %d: %s", keep, torn, short(data))
				}
			}
		}
	}
}

func TestDisksByHand(t *testing.T) {
	r := &numbers{state: 154}
	for range 500 {
		var d impl.Disk
		for range 1 + r.below(30) {
			op := someOp(r)
			switch r.below(25) {
			case 0:
				op.Kind = int64(r.below(5))
			case 1:
				op.To = "b"
			case 2:
				op.Data = "x"
			}
			want, wantCode := doByHand(d, op)
			e, code := impl.Do(d, op)
			if code != wantCode || !sameDisk(e, want) {
				t.Fatalf("%d %s: %d, not %d", op.Kind, short(op.Name), code, wantCode)
			}
			d = e
			name, data := someOp(r).Name, someOp(r).Data
			want, wantCode = replaceByHand(d, name, data)
			if e, code = impl.Replace(d, name, data); code != wantCode || !sameDisk(e, want) {
				t.Fatalf("replaced %s: %d, not %d", short(name), code, wantCode)
			}
			if code == impl.DkOk && r.below(4) == 0 {
				d = e
			}
			if r.below(9) == 0 {
				d = impl.Sync(d)
			}
		}
	}
}

func TestCrashesByHand(t *testing.T) {
	r := &numbers{state: 155}
	for range 150 {
		d := someDisk(r, r.below(8))
		for _, keep := range keeps(len(d.Ops)) {
			for _, torn := range tornsOf(d, keep) {
				want, wantOk := crashByHand(d, keep, torn)
				if e, ok := impl.Crash(d, keep, torn); ok != wantOk || !sameDisk(e, want) {
					t.Fatalf("%v, torn %d: %v, not %v", keep, torn, ok, wantOk)
				}
			}
		}
	}
}

func TestAlteredDisksByHand(t *testing.T) {
	r := &numbers{state: 156}
	for range 3000 {
		d := someDisk(r, r.below(5))
		d = impl.Disk{Live: slices.Clone(d.Live), Safe: slices.Clone(d.Safe), Ops: slices.Clone(d.Ops)}
		switch r.below(5) {
		case 0:
			if len(d.Ops) > 0 {
				d.Ops[r.below(len(d.Ops))] = someOp(r)
			}
		case 1:
			d.Ops = append(d.Ops, someOp(r))
		case 2:
			if len(d.Safe) > 0 {
				d.Safe = slices.Delete(d.Safe, 0, 1)
			}
		case 3:
			if len(d.Live) > 0 {
				d.Live[r.below(len(d.Live))].Data += "x"
			}
		case 4:
			if len(d.Ops) > 1 {
				d.Ops[0], d.Ops[1] = d.Ops[1], d.Ops[0]
			}
		}
		if impl.DiskOk(d) != diskByHand(d) {
			t.Fatal(brief(d))
		}
	}
}

// guardedDisk is d with spare room behind its lists, and a function that fails the test when one is not what it was.
func guardedDisk(t *testing.T, d impl.Disk) (impl.Disk, func()) {
	t.Helper()
	live, liveUnchanged := guarded(t, d.Live, file("zzz", "spare"))
	safe, safeUnchanged := guarded(t, d.Safe, file("zzz", "spare"))
	ops, opsUnchanged := guarded(t, d.Ops, appendOf("zzz", "spare"))
	return impl.Disk{Live: live, Safe: safe, Ops: ops}, func() {
		t.Helper()
		liveUnchanged()
		safeUnchanged()
		opsUnchanged()
	}
}

// holdDisks spoils the answers list by list, and asks again: nothing that is spoilt may show.
func holdDisks(t *testing.T, answers func() []impl.Disk) {
	t.Helper()
	first := answers()
	var was []impl.Disk
	for _, d := range first {
		was = append(was, impl.Disk{Live: slices.Clone(d.Live), Safe: slices.Clone(d.Safe), Ops: slices.Clone(d.Ops)})
	}
	for i, d := range first {
		if !sameDisk(d, was[i]) {
			t.Errorf("disk %d shares memory with one ahead of it", i)
		}
		spoil(d.Live, file("spoilt", "spoilt"))
		if !slices.Equal(d.Safe, was[i].Safe) || !slices.Equal(d.Ops, was[i].Ops) {
			t.Errorf("disk %d shares memory with itself", i)
		}
		spoil(d.Safe, file("spoilt", "spoilt"))
		spoil(d.Ops, removeOf("spoilt"))
	}
	for i, d := range answers() {
		if !sameDisk(d, was[i]) {
			t.Errorf("disk %d was %s and is %s", i, brief(was[i]), brief(d))
		}
	}
}

func TestDiskAnswersAreNewMemory(t *testing.T) {
	r := &numbers{state: 157}
	for i := range 60 {
		right := someDisk(r, i%7)
		if len(right.Live) > 0 {
			right = behind(t, right, renameOf(right.Live[0].Name, right.Live[0].Name))
		}
		d, unchanged := guardedDisk(t, right)
		wrong, wrongUnchanged := guardedDisk(t, impl.Disk{Live: right.Live, Safe: right.Safe, Ops: append(slices.Clone(right.Ops), removeOf("none"))})
		keep, keepUnchanged := guarded(t, keeps(len(d.Ops))[r.below(1<<len(d.Ops))], 3)
		ops := []impl.DOp{appendOf("a", "x"), appendOf("a", ""), appendOf("zz", "y"), renameOf("a", "b"), renameOf("a", "a"), renameOf("b", longName), removeOf("a"), removeOf("b"), removeOf("none"), {}, appendOf("b", allBytes)}
		holdDisks(t, func() []impl.Disk {
			list := []impl.Disk{impl.Sync(d), impl.Sync(wrong)}
			for _, op := range ops {
				e, _ := impl.Do(d, op)
				f, _ := impl.Do(wrong, op)
				list = append(list, e, f)
			}
			for _, name := range []string{"a", "b", "", longName} {
				e, _ := impl.Replace(d, name, "new")
				f, _ := impl.Replace(wrong, name, "new")
				list = append(list, e, f)
			}
			e, _ := impl.Crash(d, keep, 1)
			f, _ := impl.Crash(wrong, keep, 1)
			g, _ := impl.Crash(d, nil, 1)
			impl.DiskOk(d)
			impl.DiskOk(wrong)
			impl.ReadFile(d, "a")
			return append(list, e, f, g)
		})
		unchanged()
		wrongUnchanged()
		keepUnchanged()
	}
}
