package tests

import (
	"fmt"
	"regexp"
	"slices"
	"strings"
	"sync"
	"testing"

	"loop.example/g00546/impl"
)

const tooLong = "too long\n"

// A line is one of a script, and what it says; "" when it says nothing.
type line [2]string

// holdLines runs some first ones of the lines, as many as there may be: what
// they say is the same however many there are.
func holdLines(t *testing.T, lines ...line) {
	t.Helper()
	text, want := "", ""
	for count, l := range lines {
		text += l[0] + "\n"
		if l[1] != "" {
			want += l[1] + "\n"
		}
		if got := impl.RunScript(text); got != want {
			t.Errorf("%d lines, the last one %s: says %s, not %s", count+1, short(l[0]), short(lastLine(got)), short(l[1]))
			return
		}
	}
}

func lastLine(said string) string {
	said = strings.TrimSuffix(said, "\n")
	return said[strings.LastIndex(said, "\n")+1:]
}

func holdScript(t *testing.T, name string, text string, want string) {
	t.Helper()
	if got := impl.RunScript(text); got != want {
		t.Errorf("%s: says %s, not %s", name, short(got), short(want))
	}
}

var decimalByHand = regexp.MustCompile(`\A(0|[1-9][0-9]{0,8})\z`)

// A paper is a graph that is written down as the distance over each arc.
type paper struct {
	n    int64
	arcs map[[2]int64]int64
}

func newPaper(n int64) *paper {
	return &paper{n: n, arcs: map[[2]int64]int64{}}
}

// distances are found by going over each node, one after the other.
func (p *paper) distances() [][]int64 {
	var all [][]int64
	for u := range p.n {
		all = append(all, nil)
		for v := range p.n {
			d, ok := p.arcs[[2]int64{u, v}]
			if u == v {
				d = 0
			} else if !ok {
				d = -1
			}
			all[u] = append(all[u], d)
		}
	}
	for x := range all {
		for u := range all {
			for v := range all {
				over := all[u][x] + all[x][v]
				if all[u][x] >= 0 && all[x][v] >= 0 && (all[u][v] < 0 || over < all[u][v]) {
					all[u][v] = over
				}
			}
		}
	}
	return all
}

func (p *paper) path(all [][]int64, s int64, t int64) []int64 {
	if all[s][t] < 0 {
		return nil
	}
	list := []int64{s}
	for v := s; v != t; list = append(list, v) {
		for next := range p.n {
			if w := p.arcs[[2]int64{v, next}]; w > 0 && all[next][t] >= 0 && w+all[next][t] == all[v][t] {
				v = next
				break
			}
		}
	}
	return list
}

func centerByHand(all [][]int64) int64 {
	best, most, least := 0, 0, int64(0)
	for v, row := range all {
		reached := len(row)
		for _, d := range row {
			if d < 0 {
				reached--
			}
		}
		if spread := slices.Max(row); reached > most || reached == most && spread < least {
			best, most, least = v, reached, spread
		}
	}
	return int64(best)
}

// change does what the first three of the table do; false when the line is none of these.
func (p *paper) change(form string, x []int64) (string, bool) {
	switch form {
	case "nodes 1":
		if x[0] < 1 || x[0] > 24 {
			return "no", true
		}
		*p = *newPaper(x[0])
	case "arc 3":
		if x[0] >= p.n || x[1] >= p.n || x[0] == x[1] || x[2] > 1000 {
			return "no", true
		}
		delete(p.arcs, [2]int64{x[0], x[1]})
		if x[2] > 0 {
			p.arcs[[2]int64{x[0], x[1]}] = x[2]
		}
	case "turn 0":
		back := newPaper(p.n)
		for ends, w := range p.arcs {
			back.arcs[[2]int64{ends[1], ends[0]}] = w
		}
		*p = *back
	default:
		return "", false
	}
	return "ok", true
}

func listByHand(word string, x []int64) string {
	for _, n := range x {
		word += fmt.Sprint(" ", n)
	}
	return word
}

func (p *paper) answer(form string, x []int64) string {
	all := p.distances()
	switch form {
	case "dist 2":
		return listByHand("dist", []int64{all[x[0]][x[1]]})
	case "path 2":
		return listByHand("path", p.path(all, x[0], x[1]))
	case "from 1":
		return listByHand("from", all[x[0]])
	case "reach 0":
		return listByHand("reach", reachesByHand(all))
	case "parts 0":
		return listByHand("parts", partsByHand(all))
	case "center 0":
		return listByHand("center", []int64{centerByHand(all)})
	}
	if !strings.HasPrefix(form, "over ") || len(slices.Compact(slices.Sorted(slices.Values(x)))) < len(x) {
		return "what"
	}
	said := "over"
	for _, a := range levelByHand(all, x).Arcs {
		said += fmt.Sprintf(" %d>%d:%d", a.From, a.To, a.W)
	}
	return said
}

// say is what a line says, which has words.
func (p *paper) say(words []string) string {
	var x []int64
	for _, word := range words[1:] {
		if !decimalByHand.MatchString(word) {
			return "what"
		}
		x = append(x, numberByHand(word))
	}
	form := fmt.Sprint(words[0], " ", len(x))
	if said, ok := p.change(form, x); ok {
		return said
	}
	for _, n := range x {
		if n >= p.n {
			return "no"
		}
	}
	return p.answer(form, x)
}

// scriptByHand has what each line says, "" when it says nothing.
func scriptByHand(lines []string) []string {
	p := newPaper(1)
	var said []string
	for _, l := range lines {
		words := slices.DeleteFunc(strings.Split(l, " "), func(word string) bool { return word == "" })
		if len(words) == 0 {
			said = append(said, "")
			continue
		}
		said = append(said, p.say(words))
	}
	return said
}

// ended is the text of these lines.
func ended(lines []string) string {
	return strings.Join(append(slices.Clone(lines), ""), "\n")
}

// joined is the text of what lines say, of which some may say nothing.
func joined(said []string) string {
	return ended(slices.DeleteFunc(slices.Clone(said), func(s string) bool { return s == "" }))
}

// askLine asks of a graph of n nodes, rightly.
func askLine(r *numbers, n int) string {
	u, v := r.below(n), r.below(n)
	over := "over"
	for x := range n {
		if r.below(2) == 0 {
			over += fmt.Sprint(" ", (x*5+v)%n)
		}
	}
	if n%5 == 0 {
		over = fmt.Sprint("over ", v)
	}
	list := []string{
		fmt.Sprint("dist ", u, " ", v), fmt.Sprint("path ", u, " ", v), fmt.Sprint("from ", u),
		fmt.Sprint("path  ", v, " ", u), "reach", "parts", "center", over, " over ",
	}
	return list[r.below(len(list))]
}

// oddLine is one that changes nothing: it says nothing, or is refused, whatever the graph is.
func oddLine(r *numbers) string {
	odd := []string{
		"", "   ", "fly", "fly 0", "fly 30", "7", "0 0", "nodes", "nodes 0", "nodes 25", "nodes 3 1", "nodes x", "nodes 03", "arc", "arc 0 1",
		"arc 0 0 5", "arc 1 1 0", "arc 0 24 1", "arc 24 0 1", "arc 0 1 1001", "arc 0 1 2 0", "arc 0 1 2 30", "arc 0 1 -2", "turn 0", "turn 24",
		"turn turn", "dist", "dist 0", "dist 0 1 0", "dist 0 24", "path 1", "path 24 0", "path 0 0 0", "from", "from 24", "from 0 1", "reach 0",
		"reach 24", "parts 0", "parts 99", "center 0", "center 24", "over 0 0", "over 1 0 1", "over 0 24", "over 30 30", "over x", "Turn", "turn\t", "\t", "center\r",
	}
	return odd[r.below(len(odd))]
}

func changeLine(r *numbers, n int) string {
	return fmt.Sprintf("arc %d %d %d", r.below(n), r.below(n), r.below(8)*[]int{1, 1, 1, 143}[r.below(4)])
}

// someScript has so many lines, the first of which says of how many nodes its graph is at first.
func someScript(r *numbers, count int) []string {
	n := 2 + r.below(6)
	lines := []string{fmt.Sprint("nodes ", n)}
	for len(lines) < count {
		switch x := r.below(20); {
		case x < 9:
			lines = append(lines, changeLine(r, n))
		case x < 15:
			lines = append(lines, askLine(r, n))
		case x < 18:
			lines = append(lines, oddLine(r))
		case x == 18:
			lines = append(lines, "turn")
		case r.below(4) == 0:
			n = 1 + r.below(24)
			lines = append(lines, fmt.Sprint("nodes ", n))
		}
	}
	return lines
}

func TestLimitsOfScripts(t *testing.T) {
	if impl.MaxScript != 40 || impl.MaxLines != 4000 {
		t.Error(impl.MaxScript, impl.MaxLines)
	}
}

func TestScriptsAsWritten(t *testing.T) {
	holdLines(t,
		line{"center", "center 0"},
		line{"from 0", "from 0"},
		line{"reach", "reach 0"},
		line{"parts", "parts 0"},
		line{"path 0 0", "path 0"},
		line{"dist 0 0", "dist 0"},
		line{"over 0", "over"},
		line{"nodes 4", "ok"},
		line{"arc 0 1 7", "ok"},
		line{"arc 1 2 4", "ok"},
		line{"arc 2 0 5", "ok"},
		line{"arc 2 3 1000", "ok"},
		line{"dist 0 2", "dist 11"},
		line{"dist 3 0", "dist -1"},
		line{"dist 3 3", "dist 0"},
		line{"path 0 3", "path 0 1 2 3"},
		line{"path 3 0", "path"},
		line{"path 2 2", "path 2"},
		line{"from 1", "from 9 0 4 1004"},
		line{"from 3", "from -1 -1 -1 0"},
		line{"reach", "reach 5 7 11 0"},
		line{"parts", "parts 0 0 0 3"},
		line{"center", "center 2"},
		line{"over", "over"},
		line{"over 3", "over"},
		line{"over 3 1", "over 1>3:1004"},
		line{"over 0 2 3", "over 0>2:11 2>0:5 2>3:1000"},
		line{"over 3 2 1 0", "over 0>1:7 1>2:4 2>0:5 2>3:1000"},
		line{"turn", "ok"},
		line{"dist 3 0", "dist 1011"},
		line{"over 2 3 0", "over 0>2:5 2>0:11 3>2:1000"},
		line{"arc 3 2 0", "ok"},
		line{"dist 3 0", "dist -1"},
		line{"turn", "ok"},
		line{"arc 0 2 10", "ok"},
		line{"path 0 2", "path 0 2"},
		line{"arc 0 2 11", "ok"},
		line{"path 0 2", "path 0 1 2"},
		line{"nodes 2", "ok"},
		line{"from 0", "from 0 -1"})
}

func TestTextsOfNoLines(t *testing.T) {
	holdScript(t, "empty", "", "")
	holdScript(t, "a line feed", "\n", "")
	holdScript(t, "a blank", " \n", "")
	holdScript(t, "three", "\n    \n\n", "")
	for _, text := range []string{" ", "x", "center", "reach", "\n ", "center\ncenter", "center\n ", "\r", "center\n\x00", "\ncenter"} {
		holdScript(t, fmt.Sprintf("%q is not ended", text), text, tooLong)
	}
}

func TestHowManyLinesThereMayBe(t *testing.T) {
	for _, c := range []line{{"", ""}, {" ", ""}, {"center", "center 0\n"}, {"x", "what\n"}, {"turn", "ok\n"}, {"from 1", "no\n"}} {
		for _, last := range []line{c, {"", ""}, {"   ", ""}, {"reach", "reach 0\n"}} {
			text, said := strings.Repeat(c[0]+"\n", 39), strings.Repeat(c[1], 39)
			holdScript(t, "39 lines", text, said)
			text, said = text+last[0]+"\n", said+last[1]
			holdScript(t, "40 lines", text, said)
			holdScript(t, "40 lines and some bytes that are not ended", text+last[0]+"-", tooLong)
			holdScript(t, "41 lines", text+last[0]+"\n", tooLong)
			holdScript(t, "41 lines, the last one first", last[0]+"\n"+text, tooLong)
			holdScript(t, "80 lines", text+text, tooLong)
		}
	}
}

func TestHowManyBytesThereMayBe(t *testing.T) {
	for _, c := range []struct{ ahead, fill, behind, says string }{
		{"", " ", "\n", ""},
		{"center", " ", "\n", "center 0\n"},
		{"", " ", "center\n", "center 0\n"},
		{"dist 0", " ", "0\n", "dist 0\n"},
		{"nodes 3\n", " ", "\nfrom 2\n", "ok\nfrom -1 -1 0\n"},
		{"x", "x", "\n", "what\n"},
		{"fly 0 2", " ", "\n", "no\n"},
		{"center ", "0", "\n", "what\n"},
		{"", "\t", "\n", "what\n"},
	} {
		room := 4000 - len(c.ahead) - len(c.behind)
		holdScript(t, "3999 bytes: "+c.ahead, c.ahead+strings.Repeat(c.fill, room-1)+c.behind, c.says)
		holdScript(t, "4000 bytes: "+c.ahead, c.ahead+strings.Repeat(c.fill, room)+c.behind, c.says)
		holdScript(t, "4001 bytes: "+c.ahead, c.ahead+strings.Repeat(c.fill, room+1)+c.behind, tooLong)
		holdScript(t, "4001 bytes, the last one a line feed: "+c.ahead, c.ahead+strings.Repeat(c.fill, room)+c.behind+"\n", tooLong)
		holdScript(t, "9000 bytes: "+c.ahead, c.ahead+strings.Repeat(c.fill, 9000)+c.behind, tooLong)
		holdScript(t, "not ended: "+c.ahead, c.ahead+strings.Repeat(c.fill, room), tooLong)
	}
	full := strings.Repeat(strings.Repeat(" ", 93)+"center\n", 40)
	holdScript(t, "40 lines of 100 bytes", full, strings.Repeat("center 0\n", 40))
	holdScript(t, "one byte more", " "+full, tooLong)
}

func TestBlanks(t *testing.T) {
	holdLines(t,
		line{"", ""},
		line{" ", ""},
		line{"  nodes   3   ", "ok"},
		line{"", ""},
		line{" arc 0 2 9", "ok"},
		line{"arc  2 1 9 ", "ok"},
		line{"          ", ""},
		line{"path 0     1", "path 0 2 1"},
		line{"   from 0", "from 0 18 9"},
		line{" reach ", "reach 0 0 9"},
		line{"center    ", "center 0"},
		line{"  over  1  0 ", "over 0>1:18"},
		line{"over    ", "over"},
		line{" turn ", "ok"},
		line{" dist  1  0 ", "dist 18"},
		line{" fly  ", "what"},
		line{" fly   3 ", "no"},
		line{"  7  ", "what"},
		line{"cen ter", "what"},
		line{"c enter", "what"})
}

func TestBytesThatAreNoBlanks(t *testing.T) {
	for _, b := range []string{"\t", "\r", "\v", "\f", "\x00", "\x01", "\x1f", "\x7f", "\x80", "\x85", "\xa0", "\xff", "\u0085", "\u00a0", "\u2028", "\u3000", "\ufeff", "\u0663", "é", "-", "+", ".", ",", ";", ":", ">", "_", "'", "#"} {
		holdLines(t,
			line{"nodes 5", "ok"},
			line{"arc 0 1 3", "ok"},
			line{b, "what"},
			line{b + b, "what"},
			line{b + " 4", "what"},
			line{b + " 5", "no"},
			line{b + " " + b, "what"},
			line{"center" + b, "what"},
			line{b + "center", "what"},
			line{"center " + b, "what"},
			line{b + " center", "what"},
			line{"cen" + b + "ter", "what"},
			line{"nodes" + b + "3", "what"},
			line{"nodes 3" + b, "what"},
			line{"nodes " + b + "3", "what"},
			line{"nodes 3 " + b, "what"},
			line{"nodes" + b + " 3", "what"},
			line{"nodes" + b + " 5", "no"},
			line{"dist 0" + b + "1", "what"},
			line{"dist 0 1" + b, "what"},
			line{"dist 0 " + b + " 1", "what"},
			line{"turn" + b, "what"},
			line{"arc 0 1 4" + b, "what"},
			line{"over 0 1 9" + b, "what"},
			line{"over 0 1", "over 0>1:3"},
			line{"from 0", "from 0 3 -1 -1 -1"})
	}
}

func TestNumbersInDecimal(t *testing.T) {
	for _, word := range []string{
		"00", "01", "007", "000000000", "+1", "-1", "-0", "+0", "1.", "1.0", ".5", "1e1", "1_0", "0x1", "0b1", "0o1", "x", "1x", "x1", "one", "--1", "1-", "1000000000",
		"0000000001", "4294967296", "9223372036854775807", "9223372036854775808", "18446744073709551616", "18446744073709551617", "36893488147419103233", "1,2", "\"1\"", "'1'", "nodes", "ok",
	} {
		lines := []line{{"nodes 4", "ok"}}
		for _, l := range []string{"nodes ?", "arc ? 1 1", "arc 1 ? 1", "arc 1 2 ?", "arc ? ? ?", "turn ?", "dist ? 1", "dist 1 ?", "path ? 1", "path 1 ?", "from ?", "reach ?", "parts ?", "center ?", "over ?",
			"over 1 ?", "over 1 1 ?", "over 9 ?", "over ? 9", "fly ?", "fly 9 ?", "fly ? 9", "9 ?", "nodes 25 ?", "nodes 2 ?", "nodes ? 2", "arc 9 9 ?", "arc 0 1 9 ?", "dist 9 9 ?", "from 9 ?"} {
			lines = append(lines, line{strings.ReplaceAll(l, "?", word), "what"})
		}
		holdLines(t, append(lines, line{"over 0 1 2 3", "over"}, line{"from 3", "from -1 -1 -1 0"})...)
	}
	holdLines(t,
		line{"nodes 999999999", "no"},
		line{"nodes 100000000", "no"},
		line{"nodes 3", "ok"},
		line{"arc 0 1 999999999", "no"},
		line{"arc 0 999999999 1", "no"},
		line{"arc 999999999 0 1", "no"},
		line{"arc 999999999 999999999 0", "no"},
		line{"dist 0 999999999", "no"},
		line{"path 999999999 0", "no"},
		line{"from 999999999", "no"},
		line{"reach 999999999", "no"},
		line{"over 0 1 2 999999999", "no"},
		line{"fly 999999999", "no"},
		line{"fly 0", "what"},
		line{"from 0", "from 0 -1 -1"},
		line{"fly 123456789", "no"},
		line{"over 0 0 1000000000", "what"},
		line{"over 0 1 2", "over"})
}

// TestOtherNumbersOfNumbers has lines of each word with another number of numbers than its own.
func TestOtherNumbersOfNumbers(t *testing.T) {
	for word, count := range map[string]int{"nodes": 1, "arc": 3, "turn": 0, "dist": 2, "path": 2, "from": 1, "reach": 0, "parts": 0, "center": 0, "fly": -1, "3": -1, "0": -1, "4": -1, "Turn": -1, "ok": -1} {
		for numbers := range 6 {
			if numbers == count {
				continue
			}
			lines := []line{{"nodes 4", "ok"}, {"arc 0 1 5", "ok"}, {word + strings.Repeat(" 2", numbers), "what"}}
			for place := range numbers {
				l := word + strings.Repeat(" 3", place) + " 4" + strings.Repeat(" 0", numbers-place-1)
				lines = append(lines, line{l, "no"}, line{strings.ReplaceAll(l, "4", "24"), "no"})
			}
			lines = append(lines, line{word + strings.Repeat(" 3", numbers), "what"}, line{"over 3 2 1 0", "over 0>1:5"})
			holdLines(t, lines...)
		}
	}
}

func TestNodesAsWritten(t *testing.T) {
	holdLines(t,
		line{"nodes 0", "no"},
		line{"from 0", "from 0"},
		line{"from 1", "no"},
		line{"nodes 25", "no"},
		line{"from 1", "no"},
		line{"nodes 24", "ok"},
		line{"dist 23 0", "dist -1"},
		line{"dist 24 0", "no"},
		line{"arc 23 0 1000", "ok"},
		line{"nodes 25", "no"},
		line{"dist 23 0", "dist 1000"},
		line{"nodes 0", "no"},
		line{"dist 23 0", "dist 1000"},
		line{"nodes 24", "ok"},
		line{"dist 23 0", "dist -1"},
		line{"arc 23 0 1", "ok"},
		line{"nodes 23", "ok"},
		line{"dist 23 0", "no"},
		line{"nodes 24", "ok"},
		line{"dist 23 0", "dist -1"},
		line{"nodes 1", "ok"},
		line{"nodes 1 1", "no"},
		line{"nodes 0 0", "what"},
		line{"nodes", "what"},
		line{"parts", "parts 0"},
		line{"nodes 2", "ok"},
		line{"nodes 1 1", "what"},
		line{"nodes 1 0 2", "no"},
		line{"parts", "parts 0 1"})
}

func TestArcsAsWritten(t *testing.T) {
	holdLines(t,
		line{"arc 0 0 0", "no"},
		line{"arc 0 1 1", "no"},
		line{"nodes 3", "ok"},
		line{"arc 0 1 1000", "ok"},
		line{"arc 0 2 1001", "no"},
		line{"arc 0 1 1001", "no"},
		line{"dist 0 1", "dist 1000"},
		line{"arc 0 3 5", "no"},
		line{"arc 3 0 5", "no"},
		line{"arc 3 0 0", "no"},
		line{"arc 0 3 0", "no"},
		line{"arc 3 3 0", "no"},
		line{"arc 1 1 5", "no"},
		line{"arc 1 1 0", "no"},
		line{"arc 2 1 0", "ok"},
		line{"over 0 1 2", "over 0>1:1000"},
		line{"arc 0 1 1", "ok"},
		line{"over 0 1 2", "over 0>1:1"},
		line{"arc 1 0 2", "ok"},
		line{"over 0 1 2", "over 0>1:1 1>0:2"},
		line{"arc 0 1 0", "ok"},
		line{"over 0 1 2", "over 1>0:2"},
		line{"arc 0 1 0", "ok"},
		line{"over 0 1 2", "over 1>0:2"},
		line{"arc 0 1", "what"},
		line{"arc 0 3", "no"},
		line{"arc 0 1 2 0", "what"},
		line{"arc 0 1 3 0", "no"},
		line{"arc 0 1 9", "ok"},
		line{"dist 0 1", "dist 9"})
	lines, all := []line{{"nodes 24", "ok"}}, "over"
	for u := range 19 {
		lines = append(lines, line{fmt.Sprintf("arc %d 23 1000", u), "ok"}, line{fmt.Sprintf("arc %d 22 %d", u, u+1), "ok"})
		all += fmt.Sprintf(" %d>22:%d %d>23:1000", u, u+1, u)
	}
	holdLines(t, append(lines, line{"over 0 1 2 3 4 5 6 7 8 9 10 11 12 13 14 15 16 17 18 19 20 21 22 23", all})...)
}

func TestTurnsOfScripts(t *testing.T) {
	holdLines(t,
		line{"turn", "ok"},
		line{"turn 0", "what"},
		line{"turn 1", "no"},
		line{"nodes 3", "ok"},
		line{"turn", "ok"},
		line{"arc 0 1 2", "ok"},
		line{"arc 1 0 3", "ok"},
		line{"arc 1 2 4", "ok"},
		line{"turn 2", "what"},
		line{"turn 3", "no"},
		line{"turn 0 0", "what"},
		line{"turn x", "what"},
		line{"over 0 1 2", "over 0>1:2 1>0:3 1>2:4"},
		line{"turn", "ok"},
		line{"over 0 1 2", "over 0>1:3 1>0:2 2>1:4"},
		line{"arc 2 0 2", "ok"},
		line{"turn", "ok"},
		line{"over 0 1 2", "over 0>1:2 0>2:2 1>0:3 1>2:4"},
		line{"turn", "ok"},
		line{"turn", "ok"},
		line{"over 0 1 2", "over 0>1:2 0>2:2 1>0:3 1>2:4"})
}

func TestAsksAsWritten(t *testing.T) {
	holdLines(t,
		line{"nodes 4", "ok"},
		line{"arc 2 0 3", "ok"},
		line{"arc 0 1 1", "ok"},
		line{"arc 2 1 4", "ok"},
		line{"dist 2 1", "dist 4"},
		line{"dist 1 2", "dist -1"},
		line{"dist 3 3", "dist 0"},
		line{"dist 2 4", "no"},
		line{"dist 4 2", "no"},
		line{"dist 4 4", "no"},
		line{"path 2 1", "path 2 0 1"},
		line{"path 1 2", "path"},
		line{"path 1 1", "path 1"},
		line{"path 1 4", "no"},
		line{"path 4 1", "no"},
		line{"path 5 5", "no"},
		line{"from 2", "from 3 4 0 -1"},
		line{"from 3", "from -1 -1 -1 0"},
		line{"from 4", "no"},
		line{"from 2 2", "what"},
		line{"reach", "reach 1 0 0 0"},
		line{"reach 3", "what"},
		line{"reach 4", "no"},
		line{"parts", "parts 0 1 2 3"},
		line{"parts 3", "what"},
		line{"parts 4", "no"},
		line{"center", "center 2"},
		line{"center 3", "what"},
		line{"center 4", "no"},
		line{"turn", "ok"},
		line{"center", "center 1"},
		line{"path 1 2", "path 1 0 2"},
		line{"arc 2 0 9", "ok"},
		line{"parts", "parts 0 1 0 3"},
		line{"reach", "reach 1 0 0 0"})
}

func TestOversAsWritten(t *testing.T) {
	holdLines(t,
		line{"over 0 0", "what"},
		line{"over 1", "no"},
		line{"over 1 1", "no"},
		line{"nodes 4", "ok"},
		line{"over", "over"},
		line{"over 0 1 2 3", "over"},
		line{"arc 0 1 5", "ok"},
		line{"arc 1 2 6", "ok"},
		line{"arc 2 3 7", "ok"},
		line{"arc 3 0 8", "ok"},
		line{"over", "over"},
		line{"over 2", "over"},
		line{"over 3 0", "over 0>3:18 3>0:8"},
		line{"over 0 3", "over 0>3:18 3>0:8"},
		line{"over 3 2 1 0", "over 0>1:5 1>2:6 2>3:7 3>0:8"},
		line{"over 1 3 0 2", "over 0>1:5 1>2:6 2>3:7 3>0:8"},
		line{"over 1 1", "what"},
		line{"over 0 1 2 3 0", "what"},
		line{"over 3 2 2", "what"},
		line{"over 0 4", "no"},
		line{"over 4 0", "no"},
		line{"over 1 1 4", "no"},
		line{"over 4 1 1", "no"},
		line{"over 4 4", "no"},
		line{"over 1 1 x", "what"},
		line{"over 4 x", "what"},
		line{"over 0 1 2 3 4", "no"})
	all := "over 23 22 21 20 19 18 17 16 15 14 13 12 11 10 9 8 7 6 5 4 3 2 1 0"
	holdLines(t, line{"nodes 24", "ok"}, line{"arc 23 11 1000", "ok"}, line{"arc 11 0 999", "ok"}, line{all, "over 11>0:999 23>11:1000"}, line{all + " 0", "what"}, line{all + " 24", "no"}, line{all + " 24 0", "no"})
}

// TestBehindALineThatWasRefused puts a refused line ahead of each one, which says what it says without.
func TestBehindALineThatWasRefused(t *testing.T) {
	lines := []line{
		{"nodes 4", "ok"}, {"arc 0 1 2", "ok"}, {"arc 1 2 3", "ok"}, {"arc 2 0 4", "ok"}, {"arc 0 3 6", "ok"}, {"arc 0 3 0", "ok"}, {"turn", "ok"}, {"dist 0 1", "dist 7"},
		{"path 0 1", "path 0 2 1"}, {"from 3", "from -1 -1 -1 0"}, {"reach", "reach 2 2 3 0"}, {"parts", "parts 0 0 0 3"}, {"center", "center 2"}, {"over 0 1", "over 0>1:7 1>0:2"},
	}
	for refused, says := range map[string]string{
		"nodes 25": "no", "nodes 0": "no", "nodes 9 x": "what", "nodes": "what", "arc 0 0 9": "no", "arc 0 24 9": "no", "arc 0 1 1001": "no", "arc 1 2 0 30": "no", "arc 0 1 x": "what", "arc": "what",
		"turn 24": "no", "turn x": "what", "dist 0 30": "no", "dist 0": "what", "path 24 0": "no", "path 0": "what", "from 24": "no", "from": "what", "reach 24": "no", "reach 0": "what", "parts 0": "what",
		"center 24": "no", "over 24": "no", "over 0 0": "what", "over x": "what", "fly": "what", "fly 0": "what", "fly 24": "no", "24": "what", "0 24": "no", "\t": "what",
	} {
		var mixed []line
		for _, l := range lines {
			mixed = append(mixed, line{refused, says}, l)
		}
		holdLines(t, mixed...)
	}
}

func TestScriptsByHand(t *testing.T) {
	r := &numbers{state: 170}
	seen := map[string]int{}
	for i := range 3000 {
		lines := someScript(r, 1+i%40)
		said := scriptByHand(lines)
		text := ended(lines)
		if got := impl.RunScript(text); got != joined(said) {
			t.Fatalf("%q:\nsays %q,\nnot  %q", text, got, joined(said))
		}
		for place, s := range said {
			word, rest, _ := strings.Cut(s, " ")
			if rest != "" && len(strings.Fields(rest)) > 1 {
				word += " .."
			}
			if s == "path" || s == "over" || s == "ok" || s == "no" {
				word += " to " + strings.Fields(lines[place])[0]
			}
			seen[word]++
		}
	}
	for _, what := range []string{"", "ok to nodes", "ok to arc", "ok to turn", "no to nodes", "no to arc", "no to turn", "no to over", "what", "dist", "path to path", "path", "path ..", "from ..", "reach ..", "parts ..", "center", "over to over", "over", "over .."} {
		if seen[what] < 10 {
			t.Errorf("%q was said %d times", what, seen[what])
		}
	}
}

// TestWhatAScriptSaidStaysSaid holds what each first lines say against what all say.
func TestWhatAScriptSaidStaysSaid(t *testing.T) {
	r := &numbers{state: 171}
	for range 300 {
		lines := someScript(r, 40)
		all := impl.RunScript(ended(lines))
		for count := range lines {
			first := impl.RunScript(ended(lines[:count]))
			if !strings.HasPrefix(all, first) {
				t.Fatalf("%q:\nsays %q,\nof %q", ended(lines[:count]), first, all)
			}
			next := scriptByHand(lines[:count+1])[count]
			if more := impl.RunScript(ended(lines[:count+1])); more != first+joined([]string{next}) {
				t.Fatalf("%q:\nsays %q behind %q", ended(lines[:count+1]), more, first)
			}
		}
		if more := impl.RunScript(ended(lines) + "\n"); more != tooLong {
			t.Fatalf("a line too many: %q", more)
		}
	}
}

// TestLinesThatAskChangeNothing puts lines that ask, say nothing or are refused between the lines of a script, and leaves out what they say.
func TestLinesThatAskChangeNothing(t *testing.T) {
	r := &numbers{state: 172}
	for i := range 1500 {
		lines := someScript(r, 1+r.below(25))
		var mixed []string
		var own []bool
		for _, l := range lines {
			for range r.below(3) {
				if len(mixed) < 15 {
					asked := askLine(r, 1+r.below(5))
					if i%2 == 0 {
						asked = oddLine(r)
					}
					mixed, own = append(mixed, asked), append(own, false)
				}
			}
			mixed, own = append(mixed, l), append(own, true)
		}
		var left []string
		said := strings.Split(impl.RunScript(ended(mixed)), "\n")
		for place, l := range mixed {
			if strings.Trim(l, " ") == "" {
				continue
			}
			if own[place] {
				left = append(left, said[0])
			}
			said = said[1:]
		}
		if want := impl.RunScript(ended(lines)); ended(left) != want {
			t.Fatalf("%q:\nsays %q,\nnot  %q", ended(mixed), ended(left), want)
		}
	}
}

// TestNothingIsKeptFromOneScriptToAnother runs scripts one behind the other, and many at once.
func TestNothingIsKeptFromOneScriptToAnother(t *testing.T) {
	r := &numbers{state: 173}
	texts := []string{"", "reach", "from 1\n", "center\n", "over 0\n", "parts\n"}
	for range 20 {
		texts = append(texts, ended(someScript(r, 40)))
	}
	var first []string
	for _, text := range texts {
		first = append(first, impl.RunScript(text))
	}
	var all sync.WaitGroup
	for worker := range 8 {
		all.Go(func() {
			for i := range texts {
				place := (i*7 + worker*3) % len(texts)
				if got := impl.RunScript(texts[place]); got != first[place] {
					t.Errorf("%q: says %q, not %q", texts[place], got, first[place])
				}
			}
		})
	}
	all.Wait()
}

func TestScriptsOfAnyBytes(t *testing.T) {
	r := &numbers{state: 174}
	bytes := "\n\n\n    \t\r\x00\xff0011223459xadioprtuvcenhf-"
	words := []string{"nodes", "arc", "turn", "dist", "path", "from", "reach", "parts", "center", "over", "\n", "\n", "\n", " ", " ", " 0", " 1", " 2", " 3", " 24", "\t"}
	for i := range 20000 {
		text := ""
		for range r.below(60) {
			if i%2 == 0 {
				text += words[r.below(len(words))]
			} else {
				x := r.below(len(bytes))
				text += bytes[x : x+1]
			}
		}
		want := tooLong
		if lines := strings.Split(text, "\n"); lines[len(lines)-1] == "" && len(lines) <= 41 {
			want = joined(scriptByHand(lines[:len(lines)-1]))
		}
		if got := impl.RunScript(text); got != want {
			t.Fatalf("%q: says %q, not %q", text, got, want)
		}
	}
}
