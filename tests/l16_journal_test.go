package tests

import (
	"encoding/binary"
	"hash/crc32"
	"math"
	"regexp"
	"slices"
	"strconv"
	"strings"
	"testing"

	"loop.example/g00546/impl"
)

// frameByHand makes a frame of any length.
func frameByHand(data string) string {
	head := binary.BigEndian.AppendUint32(nil, uint32(len(data)))
	head = binary.LittleEndian.AppendUint32(head, crc32.ChecksumIEEE([]byte(data)))
	return string(head) + data
}

func framesByHand(s string) ([]string, int64) {
	var frames []string
	at := 0
	for len(s)-at >= 8 {
		size := int64(binary.BigEndian.Uint32([]byte(s[at:])))
		if size > 100000 || size > int64(len(s)-at-8) {
			break
		}
		data := s[at+8 : at+8+int(size)]
		if binary.LittleEndian.Uint32([]byte(s[at+4:])) != crc32.ChecksumIEEE([]byte(data)) {
			break
		}
		frames, at = append(frames, data), at+8+len(data)
	}
	return frames, int64(at)
}

// baseOf is the Data of a base, whatever its number and its text.
func baseOf(number string, text string) impl.File {
	return file("base", frameByHand(number+"\n"+text))
}

// logOf is a log of these records, whatever they are.
func logOf(records ...string) impl.File {
	log := file("log", "")
	for _, record := range records {
		log.Data += frameByHand(record)
	}
	return log
}

var (
	numberForm = `(0|[1-9][0-9]{0,8})`
	baseForm   = regexp.MustCompile(`(?s)^` + numberForm + `\n(.*)$`)
	oldForm    = regexp.MustCompile(`(?s)^` + numberForm + ` .*$`)
	recordForm = regexp.MustCompile(`^` + numberForm + ` ` + numberForm + ` ` + numberForm + ` ` + numberForm + `$`)
)

func numberByHand(s string) int64 {
	n, _ := strconv.ParseInt(s, 10, 64)
	return n
}

// A store is what base and log of a disk tell.
type store struct {
	g    impl.Graph
	n    int64
	good bool
	code int64
}

func storeByHand(files []impl.File) store {
	base, there := shelfOf(files)["base"]
	if !there {
		return store{code: 7}
	}
	frames, end := framesByHand(base)
	if len(frames) != 1 || end != int64(len(base)) {
		return store{code: 2}
	}
	parts := baseForm.FindStringSubmatch(frames[0])
	if parts == nil {
		return store{code: 2}
	}
	g, ok := impl.ReadGraph(parts[2])
	if !ok {
		return store{code: 2}
	}
	s := store{g: g, n: numberByHand(parts[1]), good: true}
	log := shelfOf(files)["log"]
	frames, end = framesByHand(log)
	for _, frame := range frames {
		old, record := oldForm.FindStringSubmatch(frame), recordForm.FindStringSubmatch(frame)
		if old != nil && numberByHand(old[1]) <= s.n {
			continue
		}
		now, can := impl.Graph{}, false
		if record != nil && numberByHand(record[1]) == s.n+1 {
			now, can = impl.Weighed(s.g, numberByHand(record[2]), numberByHand(record[3]), numberByHand(record[4]))
		}
		if !can {
			s.good = false
			return s
		}
		s.g, s.n = now, s.n+1
	}
	s.good = end == int64(len(log))
	return s
}

// A machine makes steps as long as there is power, and none when its code is not 0.
type machine struct {
	d     impl.Disk
	power int64
	code  int64
}

func (m *machine) step(make func() int64) {
	if m.code != 0 {
		return
	}
	if m.power == 0 {
		m.code = 5
		return
	}
	if m.power > 0 {
		m.power--
	}
	if make() != 0 {
		m.code = 4
	}
}

func (m *machine) do(op impl.DOp) {
	m.step(func() int64 {
		e, code := doByHand(m.d, op)
		m.d = e
		return code
	})
}

func (m *machine) sync() {
	m.step(func() int64 {
		m.d = syncedDisk(m.d.Live...)
		return 0
	})
}

func (m *machine) gone(name string) {
	if _, there := shelfOf(m.d.Live)[name]; there && m.code == 0 {
		m.do(removeOf(name))
		m.sync()
	}
}

func (m *machine) save(s store) {
	m.sync()
	m.gone("base.new")
	m.do(appendOf("base.new", baseOf(strconv.FormatInt(s.n, 10), impl.GraphText(s.g)).Data))
	m.do(renameOf("base.new", "base"))
	m.sync()
	m.gone("log")
}

func storeDoByHand(d impl.Disk, a impl.Act) (impl.Disk, int64) {
	if !diskByHand(d) {
		return impl.Disk{}, 1
	}
	if a.Kind == 5 {
		left, ok := crashByHand(d, a.Keep, a.Torn)
		if !ok {
			return d, 3
		}
		return storeDoByHand(left, impl.Act{Kind: 4, Power: a.Power})
	}
	m := &machine{d: d, power: a.Power}
	s := storeByHand(d.Live)
	switch {
	case a.Kind < 1 || a.Kind > 5:
		return d, 3
	case a.Kind == 1 && (s.code != 7 || a.Arc.W < 1 || a.Arc.W > 24):
		return d, 3
	case a.Kind == 1:
		for _, f := range d.Live {
			m.do(removeOf(f.Name))
		}
		m.save(store{g: impl.Graph{N: a.Arc.W}})
	case s.code != 0:
		return d, s.code
	case a.Kind == 4 && s.good:
		return d, 0
	case a.Kind != 4 && !s.good:
		return d, 6
	case a.Kind == 2:
		if _, ok := impl.Weighed(s.g, a.Arc.From, a.Arc.To, a.Arc.W); !ok {
			return d, 8
		}
		if s.n == 999999999 {
			return d, 4
		}
		m.do(appendOf("log", logOf(recordByHand(s.n+1, a.Arc)).Data))
		if a.Sync {
			m.sync()
		}
	default:
		m.save(s)
	}
	if m.code != 0 && m.code != 5 {
		return d, m.code
	}
	return m.d, m.code
}

func recordByHand(n int64, a impl.Arc) string {
	return strconv.FormatInt(n, 10) + " " + strconv.FormatInt(a.From, 10) + " " + strconv.FormatInt(a.To, 10) + " " + strconv.FormatInt(a.W, 10)
}

// holdAct holds that the act answers so.
func holdAct(t *testing.T, d impl.Disk, a impl.Act, want impl.Disk, wantCode int64) {
	t.Helper()
	e, code := impl.StoreDo(d, a)
	if code != wantCode || !sameDisk(e, want) {
		t.Errorf("%v: code %d, not %d; %s, not %s", a, code, wantCode, brief(e), brief(want))
	}
	if byHand, codeByHand := storeDoByHand(d, a); codeByHand != wantCode || !sameDisk(byHand, want) {
		t.Errorf("%v: by hand code %d, not %d", a, codeByHand, wantCode)
	}
}

// holdView holds what graph is there, or why none is.
func holdView(t *testing.T, name string, d impl.Disk, want impl.Graph, wantCode int64) {
	t.Helper()
	g, code := impl.StoreView(d)
	if code != wantCode || !sameGraph(g, want) {
		t.Errorf("%s: %v %d, not %v %d", name, g, code, want, wantCode)
	}
}

func TestJournalsAreNumberedAsWritten(t *testing.T) {
	for i, pair := range [][2]int64{
		{impl.StOk, 0}, {impl.StDisk, 1}, {impl.StBad, 2}, {impl.StForm, 3}, {impl.StFull, 4}, {impl.StPower, 5}, {impl.StTorn, 6}, {impl.StNone, 7}, {impl.StNot, 8},
		{impl.AcNew, 1}, {impl.AcWeigh, 2}, {impl.AcSave, 3}, {impl.AcOpen, 4}, {impl.AcCrash, 5},
	} {
		if pair[0] != pair[1] {
			t.Errorf("%d: %d, not %d", i, pair[0], pair[1])
		}
	}
}

func TestFramesAsWritten(t *testing.T) {
	for data, want := range map[string]string{
		"":          "\x00\x00\x00\x00\x00\x00\x00\x00",
		"a":         "\x00\x00\x00\x01\x43\xbe\xb7\xe8a",
		"abc":       "\x00\x00\x00\x03\xc2\x41\x24\x35abc",
		"123456789": "\x00\x00\x00\x09\x26\x39\xf4\xcb123456789",
		"\x00":      "\x00\x00\x00\x01\x8d\xef\x02\xd2\x00",
	} {
		if f := impl.FrameOf(data); f != want || frameByHand(data) != want {
			t.Errorf("%q: %q", data, f)
		}
	}
	r := &numbers{state: 161}
	for _, size := range []int{1, 2, 7, 8, 255, 256, 257, 4095, 65535, 65536, 65537, 99999, 100000} {
		var data []byte
		for range size {
			data = append(data, byte(r.below(256)))
		}
		f := impl.FrameOf(string(data))
		if f != frameByHand(string(data)) {
			t.Errorf("%d bytes: %.20q", size, f)
		}
		if l, end := impl.TakeFrames(f); !slices.Equal(l, []string{string(data)}) || end != int64(size+8) {
			t.Errorf("%d bytes: %d frames, %d", size, len(l), end)
		}
	}
	for _, size := range []int{100001, 100008, 131072, 1000000} {
		if f := impl.FrameOf(strings.Repeat("x", size)); f != "" {
			t.Errorf("%d bytes: %.20q", size, f)
		}
	}
}

func TestFramesThatAreTaken(t *testing.T) {
	abc, none, large := impl.FrameOf("abc"), impl.FrameOf(""), impl.FrameOf(strings.Repeat("y", 100000))
	reversed := func(s string) string {
		b := []byte(s)
		slices.Reverse(b)
		return string(b)
	}
	for i, c := range []struct {
		s    string
		want []string
		end  int64
	}{
		{"", nil, 0},
		{"x", nil, 0},
		{"abcdefgh", nil, 0},
		{abc, []string{"abc"}, 11},
		{abc + "x", []string{"abc"}, 11},
		{abc + abc + "xxxxxxxxx", []string{"abc", "abc"}, 22},
		{"x" + abc, nil, 0},
		{none, []string{""}, 8},
		{none + none + abc + none, []string{"", "", "abc", ""}, 35},
		{strings.Repeat("\x00", 25), []string{"", "", ""}, 24},
		{strings.Repeat("\x00", 7), nil, 0},
		{large + large + abc, []string{large[8:], large[8:], "abc"}, 200027},
		{abc + large[:100007] + abc, []string{"abc"}, 11},
		// Longer than a frame may be, though all else is right, or longer than what is left.
		{frameByHand(strings.Repeat("y", 100001)), nil, 0},
		{abc + frameByHand(strings.Repeat("y", 100001)) + abc, []string{"abc"}, 11},
		{"\x00\x00\x00\x04" + abc[4:], nil, 0},
		{"\x00\x00\x00\x02" + abc[4:], nil, 0},
		{"\x01\x00\x00\x03" + abc[4:], nil, 0},
		{"\x00\x01\x00\x03" + abc[4:], nil, 0},
		{"\x00\x00\x01\x03" + abc[4:], nil, 0},
		{"\x80\x00\x00\x03" + abc[4:], nil, 0},
		{"\xff\xff\xff\xff" + abc[4:], nil, 0},
		{"\xff\xff\xff\xf8" + abc[4:], nil, 0},
		{"\x7f\xff\xff\xff" + abc[4:] + large, nil, 0},
		// The other way round.
		{reversed(abc[:4]) + abc[4:], nil, 0},
		{abc[:4] + reversed(abc[4:8]) + "abc", nil, 0},
		{abc[4:8] + abc[:4] + "abc", nil, 0},
		{abc[:8] + "abd" + abc, nil, 0},
		{abc + abc[:8] + "cba" + abc, []string{"abc"}, 11},
	} {
		l, end := impl.TakeFrames(c.s)
		if !slices.Equal(l, c.want) || end != c.end {
			t.Errorf("%d: %d frames, %d", i, len(l), end)
		}
	}
}

func TestFramesThatAreCutOrNotAsTheyWere(t *testing.T) {
	one, two := impl.FrameOf("ab\x00cde"), impl.FrameOf("ab")
	for end := range len(one) {
		if l, at := impl.TakeFrames(one[:end]); len(l) != 0 || at != 0 {
			t.Errorf("cut at %d: %q %d", end, l, at)
		}
		if l, at := impl.TakeFrames(two + one[:end]); !slices.Equal(l, []string{"ab"}) || at != 10 {
			t.Errorf("cut at %d behind another one: %q %d", end, l, at)
		}
	}
	for place := range len(one) {
		for bit := range 8 {
			wrong := []byte(two + one + two)
			wrong[len(two)+place] ^= 1 << bit
			if l, at := impl.TakeFrames(string(wrong)); !slices.Equal(l, []string{"ab"}) || at != 10 {
				t.Errorf("byte %d, bit %d: %q %d", place, bit, l, at)
			}
		}
	}
	r := &numbers{state: 162}
	for range 2000 {
		var s string
		for range r.below(6) {
			s += frameByHand(strings.Repeat("q", r.below(20)))
		}
		b := []byte(s + strings.Repeat("\x00", r.below(20)))
		if len(b) > 0 && r.below(2) == 0 {
			b[r.below(len(b))] = byte(r.below(256))
		}
		l, end := impl.TakeFrames(string(b))
		if want, wantEnd := framesByHand(string(b)); !slices.Equal(l, want) || end != wantEnd {
			t.Fatalf("%q: %q %d, not %q %d", b, l, end, want, wantEnd)
		}
	}
}

const threeNodes = "nodes 3\n0 1 7\n1 2 8\n"

// ofThree is the graph of threeNodes with other weights.
func ofThree(arcs ...impl.Arc) impl.Graph {
	g := withArcs(3, arc(0, 1, 7), arc(1, 2, 8))
	for _, a := range arcs {
		g, _ = impl.Weighed(g, a.From, a.To, a.W)
	}
	return g
}

func TestBasesThatAreRight(t *testing.T) {
	for i, c := range []struct {
		number string
		g      impl.Graph
	}{{"0", impl.Graph{N: 1}}, {"5", ofThree()}, {"10", impl.Graph{N: impl.MaxNodes}}, {"123456789", ofThree()}, {"999999999", firstArcs(impl.MaxNodes, impl.MaxArcs)}} {
		d := syncedDisk(baseOf(c.number, impl.GraphText(c.g)))
		holdView(t, "base "+strconv.Itoa(i), d, c.g, impl.StOk)
		holdAct(t, d, impl.Act{Kind: impl.AcOpen, Power: 0}, d, impl.StOk)
	}
	// Live counts, not Safe.
	d := behind(t, impl.Disk{}, appendOf("base", baseOf("0", threeNodes).Data))
	holdView(t, "not synced", d, ofThree(), impl.StOk)
	holdView(t, "gone", behind(t, impl.Sync(d), removeOf("base")), impl.Graph{}, impl.StNone)
	holdView(t, "renamed", behind(t, impl.Sync(d), renameOf("base", "base.new")), impl.Graph{}, impl.StNone)
	holdView(t, "appended", behind(t, impl.Sync(d), appendOf("base", "x")), impl.Graph{}, impl.StBad)
	// It may be made of two ops.
	whole := baseOf("0", threeNodes).Data
	holdView(t, "in two", behind(t, impl.Disk{}, appendOf("base", whole[:9]), appendOf("base", whole[9:])), ofThree(), impl.StOk)
}

// brokenBases are Data that a base may not have.
func brokenBases() []string {
	whole := baseOf("4", threeNodes).Data
	list := []string{"", "x", "4\n" + threeNodes, whole + whole, whole + "x", whole + frameByHand(""), whole + "\x00", "x" + whole, frameByHand("") + whole, whole[:8] + whole[9:], whole + strings.Repeat("\x00", 8), frameByHand(whole)}
	for end := range len(whole) {
		list = append(list, whole[:end])
	}
	for _, data := range []string{
		// The number.
		threeNodes, "\n" + threeNodes, "04\n" + threeNodes, "00\n" + threeNodes, "000000004\n" + threeNodes, "-1\n" + threeNodes, "-0\n" + threeNodes, "+4\n" + threeNodes, " 4\n" + threeNodes, "4 \n" + threeNodes, "4x\n" + threeNodes, "x\n" + threeNodes,
		"1000000000\n" + threeNodes, "0000000000\n" + threeNodes, "4294967300\n" + threeNodes, "18446744073709551620\n" + threeNodes, "1_0\n" + threeNodes, "0x4\n" + threeNodes, "4.\n" + threeNodes,
		// What is between it and the text.
		"", "4", "4\n", "4" + threeNodes, "4 " + threeNodes, "4\r\n" + threeNodes, "4\n\n" + threeNodes, "4\n " + threeNodes, "4\n4\n" + threeNodes,
		// The text.
		"4\nnodes 0\n", "4\nnodes 25\n", "4\nnodes 3", "4\nnodes 3\n0 1 7", "4\n" + threeNodes + "x", "4\n" + threeNodes + "\n", "4\n" + threeNodes + " ", "4\nnodes 3\n1 2 8\n0 1 7\n", "4\nnodes 3\n0 1 0\n", "4\nnodes 3\n0 3 1\n", "4\nnodes 3\n1 1 1\n", "4\nnodes 03\n", "4\n" + threeNodes + threeNodes,
	} {
		list = append(list, frameByHand(data))
	}
	return list
}

func TestBasesThatAreBroken(t *testing.T) {
	acts := []impl.Act{{Kind: impl.AcWeigh, Arc: arc(0, 1, 1), Power: -1}, {Kind: impl.AcSave, Power: -1}, {Kind: impl.AcOpen, Power: -1}, {Kind: impl.AcSave}, {Kind: impl.AcWeigh, Arc: arc(0, 0, 0)}}
	for _, data := range brokenBases() {
		for _, d := range []impl.Disk{syncedDisk(file("base", data)), syncedDisk(file("base", data), baseOf("4", threeNodes), logOf("5 0 2 1"))} {
			// The second one has its right base under another name.
			if len(d.Live) > 1 {
				d.Live[1].Name, d.Safe[1].Name = "base.new", "base.new"
			}
			holdView(t, short(data), d, impl.Graph{}, impl.StBad)
			for _, a := range acts {
				holdAct(t, d, a, d, impl.StBad)
			}
			holdAct(t, d, impl.Act{Kind: impl.AcNew, Arc: impl.Arc{W: 3}, Power: -1}, d, impl.StForm)
			holdAct(t, d, impl.Act{Kind: impl.AcCrash, Power: -1}, d, impl.StBad)
			torn := behind(t, d, appendOf("base", "more"))
			holdAct(t, torn, impl.Act{Kind: impl.AcCrash, Power: -1}, d, impl.StBad)
		}
	}
	for _, d := range []impl.Disk{{}, syncedDisk(logOf("1 0 1 5")), syncedDisk(file("base.new", baseOf("4", threeNodes).Data)), syncedDisk(file("Base", baseOf("4", threeNodes).Data))} {
		holdView(t, "no base", d, impl.Graph{}, impl.StNone)
		for _, a := range acts {
			holdAct(t, d, a, d, impl.StNone)
		}
		holdAct(t, d, impl.Act{Kind: impl.AcCrash, Power: -1}, d, impl.StNone)
	}
}

// A logRow is a log of a base with the number 4, what of it counts, and whether all does.
type logRow struct {
	data string
	arcs []impl.Arc
	n    int64
	good bool
}

func logRows() []logRow {
	five, six, seven := logOf("5 0 2 9").Data, logOf("6 1 0 3").Data, logOf("7 0 1 0").Data
	a, b, c := arc(0, 2, 9), arc(1, 0, 3), arc(0, 1, 0)
	list := []logRow{
		{"", nil, 4, true},
		{five, []impl.Arc{a}, 5, true},
		{five + six + seven, []impl.Arc{a, b, c}, 7, true},
		// At most that of the base, whatever stands behind the blank.
		{logOf("4 0 2 9").Data, nil, 4, true},
		{logOf("0 0 2 9", "1 x", "4 ", "3  ", "2 \n", "0 0 0 0 0 0", "4 -1", "1 5 5 5", "4 "+strings.Repeat("z", 9000)).Data, nil, 4, true},
		{logOf("4 0 2 9").Data + five, []impl.Arc{a}, 5, true},
		{five + logOf("4 x", "0 ", "5 y").Data + six, []impl.Arc{a, b}, 6, true},
		// The same twice: the second one is passed over.
		{five + five, []impl.Arc{a}, 5, true},
		{five + logOf("5 1 2 1").Data + six + five, []impl.Arc{a, b}, 6, true},
		// One is left out.
		{six, nil, 4, false},
		{six + five, nil, 4, false},
		{five + seven, []impl.Arc{a}, 5, false},
		{five + seven + six, []impl.Arc{a}, 5, false},
		{logOf("999999999 0 2 9").Data + five, nil, 4, false},
		// A blank is missing, though the number is at most that of the base.
		{logOf("4").Data + five, nil, 4, false},
		{logOf("").Data + five, nil, 4, false},
		{logOf("4\n1 2 3").Data + five, nil, 4, false},
		{logOf("3x 1 2 3").Data + five, nil, 4, false},
		{five + logOf("5").Data + six, []impl.Arc{a}, 5, false},
		// Bytes behind the last frame.
		{five + "x", []impl.Arc{a}, 5, false},
		{five + six[:len(six)-1], []impl.Arc{a}, 5, false},
		{five + "\x00", []impl.Arc{a}, 5, false},
		{"x", nil, 4, false},
		{"x" + five, nil, 4, false},
		{logOf("1 ").Data + "x", nil, 4, false},
		{five + frameByHand("") + six, []impl.Arc{a}, 5, false},
		{five[:len(five)-1] + "8" + six, nil, 4, false},
		// What a weighing may do that changes nothing, and one that leads to a full record.
		{logOf("5 0 1 7").Data, nil, 5, true},
		{logOf("5 2 0 0").Data, nil, 5, true},
		{logOf("5 0 1 1000").Data, []impl.Arc{arc(0, 1, 1000)}, 5, true},
	}
	for _, record := range []string{
		// The number.
		" 0 2 9", "05 0 2 9", "-5 0 2 9", "+5 0 2 9", "5. 0 2 9", "04 0 2 9", "x 0 2 9", "-1 0 2 9", "1000000000 0 2 9", "0000000005 0 2 9", "4294967301 0 2 9", "18446744073709551621 0 2 9", "5\n0 2 9",
		// Too few words, too many.
		"5", "5 ", "5 0", "5 0 2", "5 0 2 ", "5  0 2", "5 0 2 9 ", "5 0 2 9 1", "5 0 2 9\n", "5 0 2 9 0 2 9", "5 0  2 9", "5  0 2 9", "5 0 2  9", " 5 0 2 9", "5 0\t2 9",
		// Words that are no numbers.
		"5 x 2 9", "5 0 x 9", "5 0 2 x", "5 00 2 9", "5 0 02 9", "5 0 2 09", "5 -0 2 9", "5 0 2 +9", "5 0 2 9x", "5 0 2 1000000000", "5 0 2 0000000009", "5 0 2 4294967305",
		// Weighings that are false.
		"5 0 0 9", "5 3 0 9", "5 0 3 9", "5 0 2 1001", "5 -1 2 9", "5 0 2 -9", "5 2 2 0", "5 0 3 0", "5 0 2 999999999",
	} {
		next := strings.Replace(record, "5", "6", 1)
		list = append(list,
			logRow{logOf(record).Data, nil, 4, false},
			logRow{logOf(record).Data + five, nil, 4, false},
			logRow{logOf("4 x").Data + five + logOf(next).Data + six, []impl.Arc{a}, 5, false})
	}
	return list
}

func TestLogsAsWritten(t *testing.T) {
	base := baseOf("4", threeNodes)
	for i, c := range logRows() {
		d := syncedDisk(base, file("log", c.data))
		name := strconv.Itoa(i) + " " + short(c.data)
		holdView(t, name, d, ofThree(c.arcs...), impl.StOk)
		saved := syncedDisk(baseOf(strconv.FormatInt(c.n, 10), impl.GraphText(ofThree(c.arcs...))))
		weighed := behind(t, d, appendOf("log", logOf(strconv.FormatInt(c.n+1, 10)+" 2 1 6").Data))
		if c.good {
			holdAct(t, d, impl.Act{Kind: impl.AcWeigh, Arc: arc(2, 1, 6), Power: -1}, weighed, impl.StOk)
			holdAct(t, d, impl.Act{Kind: impl.AcSave, Power: -1}, saved, impl.StOk)
			holdAct(t, d, impl.Act{Kind: impl.AcOpen, Power: -1}, d, impl.StOk)
			holdAct(t, d, impl.Act{Kind: impl.AcCrash, Power: -1}, d, impl.StOk)
			holdView(t, name, weighed, ofThree(append(slices.Clone(c.arcs), arc(2, 1, 6))...), impl.StOk)
			continue
		}
		for _, power := range []int64{-1, 0, 9} {
			holdAct(t, d, impl.Act{Kind: impl.AcWeigh, Arc: arc(2, 1, 6), Power: power}, d, impl.StTorn)
			holdAct(t, d, impl.Act{Kind: impl.AcWeigh, Arc: arc(2, 2, 6), Power: power}, d, impl.StTorn)
			holdAct(t, d, impl.Act{Kind: impl.AcSave, Power: power}, d, impl.StTorn)
		}
		holdAct(t, d, impl.Act{Kind: impl.AcOpen, Power: -1}, saved, impl.StOk)
		holdAct(t, d, impl.Act{Kind: impl.AcCrash, Power: -1}, saved, impl.StOk)
	}
}

func TestABaseThatIsNewerThanItsLog(t *testing.T) {
	records := []string{"1 0 1 1", "2 0 1 2", "3 9 9 9", "4 nothing", "5 0 2 9"}
	d := syncedDisk(baseOf("4", threeNodes), logOf(records...))
	holdView(t, "with what is new", d, ofThree(arc(0, 2, 9)), impl.StOk)
	d = syncedDisk(baseOf("5", threeNodes), logOf(records...))
	holdView(t, "all is old", d, ofThree(), impl.StOk)
	weighed := behind(t, d, appendOf("log", frameByHand("6 2 0 1")))
	holdAct(t, d, impl.Act{Kind: impl.AcOpen, Power: -1}, d, impl.StOk)
	holdAct(t, d, impl.Act{Kind: impl.AcWeigh, Arc: arc(2, 0, 1), Power: -1}, weighed, impl.StOk)
	holdAct(t, d, impl.Act{Kind: impl.AcWeigh, Arc: arc(2, 0, 1), Sync: true, Power: -1}, impl.Sync(weighed), impl.StOk)
	holdView(t, "weighed", weighed, ofThree(arc(2, 0, 1)), impl.StOk)
	holdAct(t, d, impl.Act{Kind: impl.AcSave, Power: -1}, syncedDisk(baseOf("5", threeNodes)), impl.StOk)
	// All of it is passed over up to where it is torn.
	torn := syncedDisk(baseOf("5", threeNodes), file("log", logOf(records...).Data+"torn"))
	holdView(t, "torn", torn, ofThree(), impl.StOk)
	holdAct(t, torn, impl.Act{Kind: impl.AcWeigh, Arc: arc(2, 0, 1), Power: -1}, torn, impl.StTorn)
	holdAct(t, torn, impl.Act{Kind: impl.AcOpen, Power: -1}, syncedDisk(baseOf("5", threeNodes)), impl.StOk)
	// Much newer: the log ends ahead of what the base has, and goes on with what comes behind it.
	d = syncedDisk(baseOf("9", threeNodes), logOf(append(slices.Clone(records), "10 0 2 4", "11 1 0 5")...))
	holdView(t, "a gap that the base has", d, ofThree(arc(0, 2, 4), arc(1, 0, 5)), impl.StOk)
}

func TestTheLastNumber(t *testing.T) {
	weigh := impl.Act{Kind: impl.AcWeigh, Arc: arc(0, 2, 9), Power: -1}
	d := syncedDisk(baseOf("999999998", threeNodes))
	e, code := impl.StoreDo(d, weigh)
	if code != impl.StOk || !sameDisk(e, behind(t, d, appendOf("log", frameByHand("999999999 0 2 9")))) {
		t.Error(brief(e), code)
	}
	holdView(t, "the last one", e, ofThree(arc(0, 2, 9)), impl.StOk)
	saved := syncedDisk(baseOf("999999999", impl.GraphText(ofThree(arc(0, 2, 9)))))
	holdAct(t, e, impl.Act{Kind: impl.AcSave, Power: -1}, saved, impl.StOk)
	for _, full := range []impl.Disk{e, saved} {
		for _, power := range []int64{-1, 0, 1} {
			weigh.Power = power
			holdAct(t, full, weigh, full, impl.StFull)
			holdAct(t, full, impl.Act{Kind: impl.AcWeigh, Arc: arc(0, 2, 0), Sync: true, Power: power}, full, impl.StFull)
			holdAct(t, full, impl.Act{Kind: impl.AcWeigh, Arc: arc(0, 0, 1), Power: power}, full, impl.StNot)
			holdAct(t, full, impl.Act{Kind: impl.AcWeigh, Arc: arc(0, 1, 1001), Power: power}, full, impl.StNot)
		}
		holdAct(t, full, impl.Act{Kind: impl.AcOpen, Power: 0}, full, impl.StOk)
	}
	behindLast := syncedDisk(saved.Live[0], logOf("999999999 x", "1000000000 0 1 5"))
	holdView(t, "one behind the last one", behindLast, ofThree(arc(0, 2, 9)), impl.StOk)
	weigh.Power = -1
	holdAct(t, behindLast, weigh, behindLast, impl.StTorn)
	holdAct(t, behindLast, impl.Act{Kind: impl.AcOpen, Power: -1}, saved, impl.StOk)
}

func TestNewGraphs(t *testing.T) {
	for nodes := range int64(24) {
		a := impl.Act{Kind: impl.AcNew, Arc: arc(77, -5, nodes+1), Sync: nodes%2 == 0, Power: -1 - nodes}
		want := syncedDisk(baseOf("0", "nodes "+strconv.FormatInt(nodes+1, 10)+"\n"))
		holdAct(t, impl.Disk{}, a, want, impl.StOk)
		holdView(t, "new", want, impl.Graph{N: nodes + 1}, impl.StOk)
		holdAct(t, want, a, want, impl.StForm)
	}
	base, fresh := baseOf("0", "nodes 3\n"), file("base.new", baseOf("0", "nodes 3\n").Data)
	d := behind(t, syncedDisk(fresh, logOf("1 0 1 5")), appendOf("other", "x"), appendOf("Ahead", ""))
	for _, w := range append([]int64{-1, 0, 25, 26}, extremes...) {
		for _, e := range []impl.Disk{{}, d, syncedDisk(base)} {
			holdAct(t, e, impl.Act{Kind: impl.AcNew, Arc: arc(1, 2, w), Power: -1}, e, impl.StForm)
			holdAct(t, e, impl.Act{Kind: impl.AcNew, Arc: arc(1, 2, w), Power: 0}, e, impl.StForm)
		}
	}
	// All files go, by name; then there is none of which a save would have to be rid.
	gone := []impl.DOp{removeOf("Ahead"), removeOf("base.new"), removeOf("log"), removeOf("other")}
	synced := impl.Disk{}
	steps := []impl.Disk{d, behind(t, d, gone[:1]...), behind(t, d, gone[:2]...), behind(t, d, gone[:3]...), behind(t, d, gone...), synced,
		behind(t, synced, appendOf("base.new", fresh.Data)), behind(t, synced, appendOf("base.new", fresh.Data), renameOf("base.new", "base")), syncedDisk(base)}
	holdSteps(t, d, impl.Act{Kind: impl.AcNew, Arc: impl.Arc{W: 3}}, steps)
	holdSteps(t, impl.Disk{}, impl.Act{Kind: impl.AcNew, Arc: impl.Arc{W: 3}}, append([]impl.Disk{{}}, steps[5:]...))
}

// holdSteps holds the disk behind each number of steps of an act; the first one is behind none of them.
func holdSteps(t *testing.T, d impl.Disk, a impl.Act, steps []impl.Disk) {
	t.Helper()
	last := len(steps) - 1
	for power, want := range steps[:last] {
		a.Power = int64(power)
		holdAct(t, d, a, want, impl.StPower)
	}
	for _, power := range append([]int64{int64(last), int64(last) + 1, 1000}, extremes...) {
		a.Power = power
		holdAct(t, d, a, steps[last], impl.StOk)
	}
}

func TestWeighings(t *testing.T) {
	d := syncedDisk(baseOf("4", threeNodes))
	x := impl.Act{Kind: impl.AcWeigh, Arc: arc(0, 2, 9)}
	appended := behind(t, d, appendOf("log", frameByHand("5 0 2 9")))
	holdSteps(t, d, x, []impl.Disk{d, appended})
	x.Sync = true
	holdSteps(t, d, x, []impl.Disk{d, appended, impl.Sync(appended)})
	// Behind what is there already, synced or not.
	next := impl.Act{Kind: impl.AcWeigh, Arc: arc(1, 2, 0)}
	holdSteps(t, appended, next, []impl.Disk{appended, behind(t, appended, appendOf("log", frameByHand("6 1 2 0")))})
	holdSteps(t, impl.Sync(appended), next, []impl.Disk{impl.Sync(appended), behind(t, impl.Sync(appended), appendOf("log", frameByHand("6 1 2 0")))})
	holdView(t, "without an arc", behind(t, appended, appendOf("log", frameByHand("6 1 2 0"))), ofThree(arc(0, 2, 9), arc(1, 2, 0)), impl.StOk)
	for _, a := range []impl.Arc{{}, arc(1, 1, 5), arc(0, 3, 5), arc(3, 0, 5), arc(-1, 0, 5), arc(0, -1, 5), arc(0, 1, -1), arc(0, 1, 1001), arc(2, 2, 0), arc(0, 3, 0)} {
		for _, power := range []int64{-1, 0, 1} {
			holdAct(t, d, impl.Act{Kind: impl.AcWeigh, Arc: a, Power: power}, d, impl.StNot)
			holdAct(t, appended, impl.Act{Kind: impl.AcWeigh, Arc: a, Sync: true, Power: power}, appended, impl.StNot)
		}
	}
	for _, w := range extremes {
		for _, a := range []impl.Arc{arc(w, 0, 5), arc(0, w, 5), arc(0, 1, w), arc(w, w, w)} {
			holdAct(t, d, impl.Act{Kind: impl.AcWeigh, Arc: a, Power: -1}, d, impl.StNot)
		}
	}
	// With as many arcs as may be only those that are there can be weighed.
	full := syncedDisk(baseOf("0", impl.GraphText(firstArcs(impl.MaxNodes, impl.MaxArcs))))
	holdAct(t, full, impl.Act{Kind: impl.AcWeigh, Arc: arc(23, 0, 1), Power: -1}, full, impl.StNot)
	holdAct(t, full, impl.Act{Kind: impl.AcWeigh, Arc: arc(23, 0, 0), Power: -1}, behind(t, full, appendOf("log", frameByHand("1 23 0 0"))), impl.StOk)
	holdAct(t, full, impl.Act{Kind: impl.AcWeigh, Arc: arc(0, 1, 1000), Power: -1}, behind(t, full, appendOf("log", frameByHand("1 0 1 1000"))), impl.StOk)
}

func TestSavesStepByStep(t *testing.T) {
	base, log := baseOf("4", threeNodes), logOf("5 0 2 9")
	now := baseOf("5", impl.GraphText(ofThree(arc(0, 2, 9))))
	old, other := file("base.new", "old"), file("other", "x")
	write := []impl.DOp{appendOf("base.new", now.Data), renameOf("base.new", "base")}
	save := impl.Act{Kind: impl.AcSave, Arc: arc(9, 9, 9), Sync: true}
	// With log and base.new there, the log not synced.
	d := behind(t, syncedDisk(base, old, other), appendOf("log", log.Data))
	synced, gone, saved := syncedDisk(base, old, log, other), syncedDisk(base, log, other), syncedDisk(now, log, other)
	steps := []impl.Disk{d, synced, behind(t, synced, removeOf("base.new")), gone, behind(t, gone, write[0]), behind(t, gone, write...), saved, behind(t, saved, removeOf("log")), syncedDisk(now, other)}
	holdSteps(t, d, save, steps)
	// With the log alone; what is synced already is synced all the same.
	holdSteps(t, gone, save, append([]impl.Disk{gone, gone}, steps[4:]...))
	// With base.new alone, and with none of both.
	now = baseOf("4", threeNodes)
	write[0] = appendOf("base.new", now.Data)
	d, gone = syncedDisk(base, old, other), syncedDisk(base, other)
	plain := []impl.Disk{gone, behind(t, gone, write[0]), behind(t, gone, write...), gone}
	holdSteps(t, d, save, append([]impl.Disk{d, d, behind(t, d, removeOf("base.new"))}, plain...))
	holdSteps(t, gone, save, append([]impl.Disk{gone}, plain...))
	// With a log of no bytes, and one that is not seen any more.
	empty := syncedDisk(base, logOf())
	holdSteps(t, empty, save, []impl.Disk{empty, empty, behind(t, empty, write[0]), behind(t, empty, write...), empty, behind(t, empty, removeOf("log")), syncedDisk(base)})
	unseen := behind(t, syncedDisk(base, old, log), removeOf("log"), removeOf("base.new"))
	bare := syncedDisk(base)
	holdSteps(t, unseen, save, []impl.Disk{unseen, bare, behind(t, bare, write[0]), behind(t, bare, write...), bare})
}

func TestOpeningsStepByStep(t *testing.T) {
	base, now := baseOf("4", threeNodes), baseOf("5", impl.GraphText(ofThree(arc(0, 2, 9))))
	open := impl.Act{Kind: impl.AcOpen, Arc: arc(9, 9, 9), Sync: true}
	good := behind(t, syncedDisk(base, file("base.new", "old")), appendOf("log", logOf("5 0 2 9").Data))
	for _, d := range []impl.Disk{good, syncedDisk(base), syncedDisk(base, logOf()), behind(t, syncedDisk(base), removeOf("base"), appendOf("base", base.Data))} {
		holdSteps(t, d, open, []impl.Disk{d})
	}
	torn := behind(t, good, appendOf("log", "torn"))
	synced, gone := syncedDisk(torn.Live...), syncedDisk(base, torn.Live[2])
	saved := syncedDisk(now, torn.Live[2])
	write := []impl.DOp{appendOf("base.new", now.Data), renameOf("base.new", "base")}
	steps := []impl.Disk{torn, synced, behind(t, synced, removeOf("base.new")), gone, behind(t, gone, write[0]), behind(t, gone, write...), saved, behind(t, saved, removeOf("log")), syncedDisk(now)}
	holdSteps(t, torn, open, steps)
	// A loss of power opens what is left, with so many steps.
	crash := impl.Act{Kind: impl.AcCrash, Arc: arc(9, 9, 9), Sync: true, Keep: []int64{0, 1}, Torn: 4}
	holdSteps(t, torn, crash, append([]impl.Disk{synced}, steps[1:]...))
	crash.Torn = 0
	holdSteps(t, torn, crash, []impl.Disk{syncedDisk(good.Live...)})
	crash.Keep = nil
	holdSteps(t, torn, crash, []impl.Disk{syncedDisk(base, file("base.new", "old"))})
	crash.Keep, crash.Torn = []int64{1}, 2
	left, bare := syncedDisk(base, file("base.new", "old"), file("log", "to")), syncedDisk(base, file("log", "to"))
	write[0] = appendOf("base.new", base.Data)
	holdSteps(t, torn, crash, []impl.Disk{left, left, behind(t, left, removeOf("base.new")), bare, behind(t, bare, write[0]), behind(t, bare, write...), bare, behind(t, bare, removeOf("log")), syncedDisk(base)})
}

func TestLossesOfPowerThatAreNone(t *testing.T) {
	base := baseOf("4", threeNodes)
	d := behind(t, syncedDisk(base), appendOf("log", logOf("5 0 2 9").Data), appendOf("log", logOf("6 0 2 9").Data))
	for _, e := range []impl.Disk{d, behind(t, d, removeOf("base")), behind(t, d, appendOf("base", "x")), behind(t, impl.Disk{}, appendOf("a", ""), appendOf("b", ""))} {
		for _, keep := range [][]int64{{0, 0}, {1, 0}, {9}, {-1}, {0, 1, 2, 3}} {
			holdAct(t, e, impl.Act{Kind: impl.AcCrash, Keep: keep, Power: -1}, e, impl.StForm)
			holdAct(t, e, impl.Act{Kind: impl.AcCrash, Keep: keep, Power: 0}, e, impl.StForm)
		}
		holdAct(t, e, impl.Act{Kind: impl.AcCrash, Torn: -1, Power: -1}, e, impl.StForm)
		holdAct(t, e, impl.Act{Kind: impl.AcCrash, Keep: []int64{0}, Torn: math.MinInt64}, e, impl.StForm)
		for _, x := range extremes {
			holdAct(t, e, impl.Act{Kind: impl.AcCrash, Keep: []int64{x}, Power: -1}, e, impl.StForm)
			holdAct(t, e, impl.Act{Kind: impl.AcCrash, Keep: []int64{0, x}, Power: -1}, e, impl.StForm)
		}
	}
	// Too many files or bytes at the end.
	many := behind(t, syncedDisk(manyFiles(60)...), removeOf("fA0"), appendOf("base", base.Data))
	holdAct(t, many, impl.Act{Kind: impl.AcCrash, Keep: []int64{1}, Torn: 99, Power: -1}, many, impl.StForm)
	large := behind(t, syncedDisk(file("a", allBytes)), removeOf("a"), appendOf("base", base.Data))
	holdAct(t, large, impl.Act{Kind: impl.AcCrash, Keep: []int64{1}, Torn: 1, Power: -1}, large, impl.StForm)
	// What base and log are is asked behind the loss: as they were, none, torn, right.
	fresh := behind(t, impl.Disk{}, appendOf("base", base.Data), appendOf("base", "x"))
	holdAct(t, fresh, impl.Act{Kind: impl.AcCrash, Power: -1}, impl.Disk{}, impl.StNone)
	holdAct(t, fresh, impl.Act{Kind: impl.AcCrash, Keep: []int64{0}, Torn: 0, Power: -1}, syncedDisk(file("base", "")), impl.StBad)
	holdAct(t, fresh, impl.Act{Kind: impl.AcCrash, Keep: []int64{0}, Torn: 20, Power: -1}, syncedDisk(file("base", base.Data[:20])), impl.StBad)
	holdAct(t, fresh, impl.Act{Kind: impl.AcCrash, Keep: []int64{0}, Torn: 99, Power: 0}, syncedDisk(base), impl.StOk)
	holdAct(t, fresh, impl.Act{Kind: impl.AcCrash, Keep: []int64{0, 1}, Torn: 99, Power: -1}, syncedDisk(file("base", base.Data+"x")), impl.StBad)
	holdAct(t, fresh, impl.Act{Kind: impl.AcCrash, Keep: []int64{0, 1}, Torn: 0, Power: -1}, syncedDisk(base), impl.StOk)
}

func TestActsThatAreOfNoKind(t *testing.T) {
	good := syncedDisk(baseOf("4", threeNodes))
	for _, kind := range append([]int64{0, -1, 6, 7, 9, 1<<32 + impl.AcNew}, extremes...) {
		for _, d := range []impl.Disk{{}, good, syncedDisk(file("base", "broken")), behind(t, good, appendOf("log", "torn")), aDiskOf(good, "base", 200)} {
			for _, power := range []int64{-1, 0, 5} {
				holdAct(t, d, impl.Act{Kind: kind, Arc: arc(0, 1, 5), Power: power}, d, impl.StForm)
			}
		}
	}
}

func TestActsOnAFullDisk(t *testing.T) {
	base, log := baseOf("4", threeNodes), logOf("5 0 2 9")
	weigh := impl.Act{Kind: impl.AcWeigh, Arc: arc(0, 1, 5), Sync: true, Power: -1}
	save, open := impl.Act{Kind: impl.AcSave, Power: -1}, impl.Act{Kind: impl.AcOpen, Power: -1}
	refused := func(d impl.Disk, a impl.Act) {
		t.Helper()
		holdAct(t, d, a, d, impl.StFull)
	}
	done := func(d impl.Disk, a impl.Act) {
		t.Helper()
		if want, code := storeDoByHand(d, a); code != impl.StOk {
			t.Error("by hand", code)
		} else {
			holdAct(t, d, a, want, code)
		}
	}
	// So many ops: a save begins with a sync, a weighing does not.
	ops := aDiskOf(syncedDisk(base, log), "log", 200)
	refused(ops, weigh)
	done(ops, save)
	holdAct(t, ops, impl.Act{Kind: impl.AcWeigh, Arc: arc(0, 1, 5)}, ops, impl.StPower)
	done(aDiskOf(syncedDisk(base, log), "log", 199), weigh)
	// So many files: base.new or the log is one too many, even for a while.
	full := behind(t, syncedDisk(append([]impl.File{base}, manyFiles(59)...)...), appendOf("fA0", "x"))
	refused(full, weigh)
	refused(full, save)
	save.Power = 0
	holdAct(t, full, save, full, impl.StPower)
	save.Power = 1
	holdAct(t, full, save, impl.Sync(full), impl.StPower)
	for _, power := range []int64{2, 3, 9, -1} {
		save.Power = power
		refused(full, save)
	}
	almost := syncedDisk(append([]impl.File{base}, manyFiles(58)...)...)
	done(almost, weigh)
	done(almost, save)
	fresh := syncedDisk(slices.Concat([]impl.File{base, file("base.new", "old")}, manyFiles(58))...)
	refused(fresh, weigh)
	done(fresh, save)
	logged := syncedDisk(slices.Concat([]impl.File{base}, manyFiles(58), []impl.File{log})...)
	done(logged, weigh)
	refused(logged, save)
	torn := behind(t, logged, appendOf("log", "torn"))
	refused(torn, open)
	// The loss of power was; what came behind it was refused.
	holdAct(t, torn, impl.Act{Kind: impl.AcCrash, Keep: []int64{0}, Torn: 9, Power: -1}, impl.Sync(torn), impl.StFull)
	holdAct(t, torn, impl.Act{Kind: impl.AcCrash, Keep: []int64{0}, Torn: 0, Power: -1}, logged, impl.StOk)
	holdAct(t, torn, impl.Act{Kind: impl.AcCrash, Keep: []int64{0}, Torn: 2, Power: 1}, syncedDisk(append(logged.Live[:59:59], file("log", log.Data+"to"))...), impl.StPower)
	// So many bytes.
	record := frameByHand("6 0 1 5")
	for spare, fits := range map[int]bool{len(record): true, len(record) - 1: false, 0: false} {
		d := syncedDisk(base, log, file("other", allBytes[len(base.Data)+len(log.Data)+spare:]))
		if fits {
			done(d, weigh)
		} else {
			refused(d, weigh)
		}
		refused(d, save)
	}
	now := baseOf("5", impl.GraphText(ofThree(arc(0, 2, 9))))
	for _, spare := range []int{len(now.Data), len(now.Data) - 1} {
		d := behind(t, syncedDisk(base, log), appendOf("other", allBytes[len(base.Data)+len(log.Data)+spare:]))
		if spare == len(now.Data) {
			done(d, save)
		} else {
			refused(d, save)
		}
	}
}

func TestNewGraphsOnAFullDisk(t *testing.T) {
	fresh := impl.Act{Kind: impl.AcNew, Arc: impl.Arc{W: 3}, Power: -1}
	base := syncedDisk(baseOf("0", "nodes 3\n"))
	holdAct(t, syncedDisk(manyFiles(60)...), fresh, base, impl.StOk)
	holdAct(t, syncedDisk(file("a", allBytes)), fresh, base, impl.StOk)
	// A remove of each is one op more each; a sync comes only behind them.
	d := aDiskOf(syncedDisk(manyFiles(5)...), "fA0", 195)
	holdAct(t, d, fresh, base, impl.StOk)
	d = aDiskOf(syncedDisk(manyFiles(5)...), "fA0", 196)
	holdAct(t, d, fresh, d, impl.StFull)
	for power := range int64(5) {
		fresh.Power = power
		want := d
		for _, f := range d.Live[:power] {
			want = behind(t, want, removeOf(f.Name))
		}
		holdAct(t, d, fresh, want, impl.StPower)
	}
	fresh.Power = 5
	holdAct(t, d, fresh, d, impl.StFull)
	fresh.Power = -1
	gone := behind(t, aDiskOf(syncedDisk(file("a", "1")), "a", 199), removeOf("a"))
	holdAct(t, gone, fresh, base, impl.StOk)
	holdAct(t, aDiskOf(syncedDisk(file("a", "1")), "a", 200), fresh, aDiskOf(syncedDisk(file("a", "1")), "a", 200), impl.StFull)
}

func TestStoresOnWrongDisks(t *testing.T) {
	for _, x := range wrongDisks() {
		if g, code := impl.StoreView(x.d); code != impl.StDisk || !zeroGraph(g) {
			t.Errorf("%s: %v %d", x.name, g, code)
		}
		for _, a := range []impl.Act{{}, {Kind: 9}, {Kind: impl.AcNew, Arc: impl.Arc{W: 3}, Power: -1}, {Kind: impl.AcWeigh}, {Kind: impl.AcSave, Power: -1}, {Kind: impl.AcOpen}, {Kind: impl.AcCrash, Power: -1}, {Kind: impl.AcCrash, Torn: -1}} {
			if d, code := impl.StoreDo(x.d, a); code != impl.StDisk || !zeroDisk(d) {
				t.Errorf("%s: %s %d", x.name, brief(d), code)
			}
			if d, codes := impl.StorePlay(x.d, []impl.Act{a, a}); len(codes) != 0 || !zeroDisk(d) {
				t.Errorf("%s: %s %v", x.name, brief(d), codes)
			}
		}
		if d, codes := impl.StorePlay(x.d, nil); len(codes) != 0 || !zeroDisk(d) {
			t.Errorf("%s: %s %v", x.name, brief(d), codes)
		}
	}
	// Base and log are right, but Live is not what the ops make.
	base := baseOf("0", "nodes 3\n")
	d := impl.Disk{Live: []impl.File{base}, Safe: []impl.File{base}, Ops: []impl.DOp{removeOf("log")}}
	holdView(t, "an op that finds none", d, impl.Graph{}, impl.StDisk)
	holdAct(t, d, impl.Act{Kind: impl.AcSave, Power: -1}, impl.Disk{}, impl.StDisk)
}

func TestPlaysAsWritten(t *testing.T) {
	acts := []impl.Act{
		{Kind: impl.AcWeigh, Arc: arc(0, 1, 5), Power: -1},
		{Kind: impl.AcNew, Arc: impl.Arc{W: 25}, Power: -1},
		{Kind: impl.AcNew, Arc: impl.Arc{W: 3}, Power: 3},
		{Kind: impl.AcNew, Arc: impl.Arc{W: 4}, Power: -1},
		{Kind: impl.AcWeigh, Arc: arc(0, 1, 5), Power: -1},
		{Kind: impl.AcWeigh, Arc: arc(0, 0, 5), Power: -1},
		{},
		{Kind: impl.AcWeigh, Arc: arc(1, 2, 6), Sync: true, Power: 1},
		{Kind: impl.AcWeigh, Arc: arc(2, 0, 7), Power: -1},
		{Kind: impl.AcCrash, Keep: []int64{0, 1, 2, 4}, Torn: 99, Power: 2},
		{Kind: impl.AcWeigh, Arc: arc(0, 2, 8), Power: -1},
		{Kind: impl.AcOpen, Power: -1},
		{Kind: impl.AcWeigh, Arc: arc(0, 2, 8), Sync: true, Power: -1},
		{Kind: impl.AcSave, Power: 0},
		{Kind: impl.AcSave, Power: 4},
		{Kind: impl.AcCrash, Keep: []int64{3}, Power: -1},
	}
	want := []int64{7, 3, 5, 3, 0, 8, 3, 5, 0, 5, 6, 0, 0, 5, 5, 3}
	d, codes := impl.StorePlay(impl.Disk{}, acts)
	base := baseOf("2", "nodes 3\n0 1 5\n0 2 8\n")
	if !slices.Equal(codes, want) || !sameDisk(d, syncedDisk(base, logOf("2 0 2 8"))) {
		t.Errorf("%v: %s", codes, brief(d))
	}
	holdView(t, "played", d, withArcs(3, arc(0, 1, 5), arc(0, 2, 8)), impl.StOk)
	// Each act by itself does the same.
	var one impl.Disk
	for i, a := range acts {
		e, code := impl.StoreDo(one, a)
		if code != want[i] {
			t.Errorf("%d: code %d, not %d", i, code, want[i])
		}
		one = e
		if half, codes := impl.StorePlay(impl.Disk{}, acts[:i+1]); !sameDisk(half, one) || !slices.Equal(codes, want[:i+1]) {
			t.Errorf("%d: %v", i, codes)
		}
	}
	for _, d := range []impl.Disk{{}, d, behind(t, d, appendOf("log", "torn"))} {
		if e, codes := impl.StorePlay(d, nil); len(codes) != 0 || !sameDisk(e, d) {
			t.Error(brief(e), codes)
		}
	}
}
