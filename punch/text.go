package punch

import (
	"slices"
	"strings"

	"sobreiro/api"
	"sobreiro/terms"
)

// Words of lines.
const (
	wordLath = "lath"
	wordFlaw = "flaw"
)

// line is a line of a text.
type line interface{ text() string }

// lathLine is the line that has what a lath is without its flaws.
type lathLine struct {
	length, width, gap int
	prices             []int
}

// flawLine is a line that has a flaw.
type flawLine api.Flaw

func (l lathLine) text() string {
	return terms.Line(wordLath, slices.Concat([]int{l.length, l.width, l.gap}, l.prices)...)
}

func (l flawLine) text() string {
	sure := 0
	if l.Sure {
		sure = 1
	}
	return terms.Line(wordFlaw, l.From.Min, l.From.Max, l.To.Min, l.To.Max, l.Grade, sure)
}

// Print returns the text of a lath.
func Print(l api.Lath) (string, api.Errno) {
	if e := Check(l); e != api.OK {
		return "", e
	}
	var b strings.Builder
	for _, said := range linesOf(l) {
		b.WriteString(said.text())
	}
	if b.Len() > api.MaxText {
		return "", api.ErrCount
	}
	return b.String(), api.OK
}

func linesOf(l api.Lath) []line {
	lines := []line{lathLine{l.Length, l.Width, l.Gap, l.Prices}}
	for _, f := range l.Flaws {
		lines = append(lines, flawLine(f))
	}
	return lines
}

// Parse returns the lath of a text.
func Parse(text string) (l api.Lath, line int, e api.Errno) {
	if len(text) > api.MaxText {
		return api.Lath{}, 0, api.ErrCount
	}
	l, wrong := readLath(text)
	if wrong > 0 || text == "" {
		return api.Lath{}, wrong, api.ErrText
	}
	if e := Check(l); e != api.OK {
		return api.Lath{}, 0, e
	}
	return l, 0, api.OK
}

// wrongLine is the number of a line that does not have its form or its place. The reader panics with it.
type wrongLine int

// reader is a lath that is being read.
type reader struct {
	lath api.Lath
	line int // the number of the line that is read
}

// readLath returns the lath of a text, or the number of its first wrong line.
func readLath(text string) (l api.Lath, wrong int) {
	defer func() {
		if line, ok := recover().(wrongLine); ok {
			l, wrong = api.Lath{}, int(line)
		}
	}()
	var r reader
	for n, fields := range terms.Lines(text) {
		r.line = n
		r.add(r.read(fields[0], fields[1:]))
	}
	return r.lath, 0
}

// need gives up on the line if it does not have what it needs.
func (r *reader) need(ok bool) {
	if !ok {
		panic(wrongLine(r.line))
	}
}

// read returns the line that has a word and the fields after it.
func (r *reader) read(word string, fields []string) line {
	n, areNumbers := terms.Numbers(fields)
	r.need(areNumbers)
	if word == wordLath {
		r.need(len(n) > 3)
		return lathLine{n[0], n[1], n[2], n[3:]}
	}
	r.need(word == wordFlaw && len(n) == 6)
	sure := n[5]
	r.need(terms.Within(sure, 0, 1))
	return flawLine{From: api.Bounds{Min: n[0], Max: n[1]}, To: api.Bounds{Min: n[2], Max: n[3]}, Grade: n[4], Sure: sure == 1}
}

// add adds what a line says, if the line has its place.
func (r *reader) add(l line) {
	switch l := l.(type) {
	case lathLine:
		r.need(r.line == 1)
		r.lath.Length, r.lath.Width, r.lath.Gap, r.lath.Prices = l.length, l.width, l.gap, l.prices
	case flawLine:
		r.need(r.line > 1)
		r.lath.Flaws = append(r.lath.Flaws, api.Flaw(l))
	}
}
