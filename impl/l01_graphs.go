package impl

import (
	"cmp"
	"slices"
	"strconv"
	"strings"
)

const (
	MaxNodes = 24
	MaxArcs  = 150
	MaxW     = 1000
)

type Arc struct {
	From int64
	To   int64
	W    int64
}

type Graph struct {
	N    int64
	Arcs []Arc
}

func GraphOk(g Graph) bool {
	if g.N < 1 || g.N > MaxNodes || len(g.Arcs) > MaxArcs {
		return false
	}
	for i, a := range g.Arcs {
		if !arcOk(g, a) {
			return false
		}
		if i > 0 && compareEnds(g.Arcs[i-1], a) >= 0 {
			return false
		}
	}
	return true
}

func isNode(g Graph, v int64) bool {
	return 0 <= v && v < g.N
}

// isPair tells whether an arc may lead from u to v.
func isPair(g Graph, u int64, v int64) bool {
	return isNode(g, u) && isNode(g, v) && u != v
}

// hasNodes tells whether g is right and all of these are nodes of it.
func hasNodes(g Graph, nodes ...int64) bool {
	if !GraphOk(g) {
		return false
	}
	for _, v := range nodes {
		if !isNode(g, v) {
			return false
		}
	}
	return true
}

// hasUnlike tells whether g is right, all of these are nodes of it and no two are alike.
func hasUnlike(g Graph, nodes []int64) bool {
	if !hasNodes(g, nodes...) {
		return false
	}
	var seen [MaxNodes]bool
	for _, v := range nodes {
		if seen[v] {
			return false
		}
		seen[v] = true
	}
	return true
}

func arcOk(g Graph, a Arc) bool {
	return isPair(g, a.From, a.To) && 1 <= a.W && a.W <= MaxW
}

func compareEnds(a Arc, b Arc) int {
	return cmp.Or(cmp.Compare(a.From, b.From), cmp.Compare(a.To, b.To))
}

func GraphText(g Graph) string {
	if !GraphOk(g) {
		return ""
	}
	lines := []byte("nodes ")
	lines = append(strconv.AppendInt(lines, g.N, 10), '\n')
	for _, a := range g.Arcs {
		lines = append(strconv.AppendInt(lines, a.From, 10), ' ')
		lines = append(strconv.AppendInt(lines, a.To, 10), ' ')
		lines = append(strconv.AppendInt(lines, a.W, 10), '\n')
	}
	return string(lines)
}

func ReadGraph(s string) (g Graph, ok bool) {
	defer func() {
		if recover() != nil {
			g, ok = Graph{}, false
		}
	}()
	r := &reader{rest: s}
	return r.graph(), true
}

// A reader takes a text from its front. It gives up with a panic, so that no
// step has to hand a refusal on to the one that asked for it.
type reader struct {
	rest string
}

func (r *reader) giveUp() {
	panic("this is not the text of a graph")
}

func (r *reader) graph() Graph {
	r.skip("nodes ")
	g := Graph{N: r.number()}
	r.skip("\n")
	for r.rest != "" {
		// A text may be far longer than that of any graph.
		if len(g.Arcs) == MaxArcs {
			r.giveUp()
		}
		g.Arcs = append(g.Arcs, r.arc())
	}
	if !GraphOk(g) {
		r.giveUp()
	}
	return g
}

func (r *reader) arc() Arc {
	from := r.number()
	r.skip(" ")
	to := r.number()
	r.skip(" ")
	w := r.number()
	r.skip("\n")
	return Arc{From: from, To: to, W: w}
}

func (r *reader) skip(word string) {
	rest, found := strings.CutPrefix(r.rest, word)
	if !found {
		r.giveUp()
	}
	r.rest = rest
}

func (r *reader) number() int64 {
	end := strings.IndexAny(r.rest, " \n")
	if end < 0 {
		r.giveUp()
	}
	n, ok := decimal(r.rest[:end])
	if !ok {
		r.giveUp()
	}
	r.rest = r.rest[end:]
	return n
}

const maxDigits = 9

// decimal is the number that the whole of s is, in decimal.
func decimal(s string) (int64, bool) {
	if s == "" || len(s) > maxDigits || len(s) > 1 && s[0] == '0' {
		return 0, false
	}
	var n int64
	for i := range len(s) {
		if !isDigit(s[i]) {
			return 0, false
		}
		n = n*10 + int64(s[i]-'0')
	}
	return n, true
}

func isDigit(b byte) bool {
	return '0' <= b && b <= '9'
}

func Reversed(g Graph) Graph {
	if !GraphOk(g) {
		return Graph{}
	}
	return turned(g)
}

// turned asks no more of g than that its arcs are of its nodes.
func turned(g Graph) Graph {
	back := Graph{N: g.N}
	for _, a := range g.Arcs {
		back.Arcs = append(back.Arcs, Arc{From: a.To, To: a.From, W: a.W})
	}
	slices.SortFunc(back.Arcs, compareEnds)
	return back
}

func Outs(g Graph, v int64) []Arc {
	if !hasNodes(g, v) {
		return nil
	}
	return append([]Arc(nil), arcsFrom(g, v)...)
}

// arcsFrom is a part of the list of g itself: those from one node are side by side.
func arcsFrom(g Graph, v int64) []Arc {
	first, _ := placeOf(g, v, 0)
	behind, _ := placeOf(g, v+1, 0)
	return g.Arcs[first:behind]
}

func WeightOf(g Graph, u int64, v int64) int64 {
	if !GraphOk(g) {
		return 0
	}
	return arcWeight(g, u, v)
}

// arcWeight asks for a right graph; it is 0 when there is no such arc.
func arcWeight(g Graph, u int64, v int64) int64 {
	place, found := placeOf(g, u, v)
	if !found {
		return 0
	}
	return g.Arcs[place].W
}

// placeOf is where the arc from u to v is, or where it would be.
func placeOf(g Graph, u int64, v int64) (int, bool) {
	return slices.BinarySearchFunc(g.Arcs, Arc{From: u, To: v}, compareEnds)
}

func Weighed(g Graph, u int64, v int64, w int64) (Graph, bool) {
	if !GraphOk(g) || !isPair(g, u, v) || w < 0 || w > MaxW {
		return Graph{}, false
	}
	place, found := placeOf(g, u, v)
	behind := place
	if found {
		behind++
	}
	var now []Arc
	if w > 0 {
		now = []Arc{{From: u, To: v, W: w}}
	}
	arcs := slices.Concat(g.Arcs[:place], now, g.Arcs[behind:])
	if len(arcs) > MaxArcs {
		return Graph{}, false
	}
	return Graph{N: g.N, Arcs: arcs}, true
}
