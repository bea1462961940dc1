package tree

import (
	"slices"
	"strings"

	"sobreiro/api"
	"sobreiro/terms"
)

// Words of lines.
const (
	wordLaw   = "law"
	wordTree  = "tree"
	wordStrip = "strip"
	wordWound = "wound"
)

// Print returns the text of a forest.
func Print(f api.Forest) (string, api.Errno) {
	if e := CheckForest(f); e != api.OK {
		return "", e
	}
	l := f.Law
	var b strings.Builder
	b.WriteString(terms.Line(wordLaw, l.Age, l.Rest, l.Girth, l.Factors[0], l.Factors[1], l.Factors[2], l.Heal))
	for _, t := range f.Trees {
		b.WriteString(printTree(t))
	}
	if b.Len() > api.MaxText {
		return "", api.ErrCount
	}
	return b.String(), api.OK
}

func printTree(t api.Tree) string {
	text := terms.Line(wordTree+";"+t.Code, t.Born.Min, t.Born.Max, t.Taped, t.Girth.Min, t.Girth.Max, t.Grows.Min, t.Grows.Max, t.Dead)
	for _, s := range t.Strips {
		text += terms.Line(wordStrip, s.Year, s.Height)
	}
	for _, w := range t.Wounds {
		text += terms.Line(wordWound, w)
	}
	return text
}

// Parse returns the forest of a text.
func Parse(text string) (f api.Forest, line int, e api.Errno) {
	if len(text) > api.MaxText {
		return api.Forest{}, 0, api.ErrCount
	}
	f, wrong := readForest(text)
	if wrong > 0 || text == "" {
		return api.Forest{}, wrong, api.ErrText
	}
	if e := CheckForest(f); e != api.OK {
		return api.Forest{}, 0, e
	}
	return f, 0, api.OK
}

// wrongLine is the number of a line that does not have its form or its place. The reader panics with it.
type wrongLine int

// reader is a forest that is being read.
type reader struct {
	forest api.Forest
	line   int    // the number of the line that is read
	last   string // the word of the line before it
}

// readForest returns the forest of a text, or the number of its first wrong line.
func readForest(text string) (f api.Forest, wrong int) {
	defer func() {
		if line, ok := recover().(wrongLine); ok {
			wrong = int(line)
		}
	}()
	kinds := map[string]func(*reader, []string){
		wordLaw:   (*reader).readLaw,
		wordTree:  (*reader).readTree,
		wordStrip: (*reader).readStrip,
		wordWound: (*reader).readWound,
	}
	var r reader
	for n, fields := range terms.Lines(text) {
		r.line = n
		read, ok := kinds[fields[0]]
		r.need(ok)
		read(&r, fields[1:])
		r.last = fields[0]
	}
	return r.forest, 0
}

// need gives up on the line if it does not have what it needs.
func (r *reader) need(ok bool) {
	if !ok {
		panic(wrongLine(r.line))
	}
}

// needAfter gives up on the line if the one before it has none of these words.
func (r *reader) needAfter(words ...string) {
	r.need(slices.Contains(words, r.last))
}

// numbers reads so many fields, which all are numbers.
func (r *reader) numbers(fields []string, many int) []int {
	l, ok := terms.Numbers(fields)
	r.need(ok && len(l) == many)
	return l
}

func (r *reader) readLaw(fields []string) {
	r.needAfter("")
	n := r.numbers(fields, 7)
	r.forest.Law = api.Law{Age: n[0], Rest: n[1], Girth: n[2], Factors: [3]int{n[3], n[4], n[5]}, Heal: n[6]}
}

func (r *reader) readTree(fields []string) {
	r.needAfter(wordLaw, wordTree, wordStrip, wordWound)
	r.need(len(fields) > 0)
	n := r.numbers(fields[1:], 8)
	r.forest.Trees = append(r.forest.Trees, api.Tree{
		Code:  strings.Clone(fields[0]), // so that the forest does not hold on to the text
		Born:  api.Bounds{Min: n[0], Max: n[1]},
		Taped: n[2],
		Girth: api.Bounds{Min: n[3], Max: n[4]},
		Grows: api.Bounds{Min: n[5], Max: n[6]},
		Dead:  n[7],
	})
}

func (r *reader) readStrip(fields []string) {
	r.needAfter(wordTree, wordStrip)
	n := r.numbers(fields, 2)
	t := r.tree()
	t.Strips = append(t.Strips, api.Strip{Year: n[0], Height: n[1]})
}

func (r *reader) readWound(fields []string) {
	r.needAfter(wordTree, wordStrip, wordWound)
	n := r.numbers(fields, 1)
	t := r.tree()
	t.Wounds = append(t.Wounds, n[0])
}

// tree returns the tree to which the line belongs.
func (r *reader) tree() *api.Tree { return &r.forest.Trees[len(r.forest.Trees)-1] }
