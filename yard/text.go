package yard

import (
	"strconv"
	"strings"

	"sobreiro/api"
	"sobreiro/terms"
)

// wordYard is the word of the first line. The others have those of their deeds.
const wordYard = "yard"

// line is a line of a text.
type line interface{ text() string }

// restLine is the line that has the rests of the law.
type restLine struct{ before, after int }

// deedLine is a line that has a deed.
type deedLine api.Deed

func (l restLine) text() string { return terms.Line(wordYard, l.before, l.after) }

func (l deedLine) text() string {
	f, _ := formOf(l.Kind)
	fields := []string{f.word, strconv.Itoa(l.Day), l.Stack}
	if f.other {
		fields = append(fields, l.Other)
	}
	numbers := []int{l.A.Min, l.A.Max, l.B.Min, l.B.Max}
	return terms.Line(strings.Join(fields, ";"), numbers[:2*len(f.most)]...)
}

// Print returns the text of a yard.
func Print(y api.Yard) (string, api.Errno) {
	if e := CheckYard(y); e != api.OK {
		return "", e
	}
	var b strings.Builder
	for _, l := range linesOf(y) {
		b.WriteString(l.text())
	}
	if b.Len() > api.MaxText {
		return "", api.ErrCount
	}
	return b.String(), api.OK
}

func linesOf(y api.Yard) []line {
	lines := []line{restLine{y.Before, y.After}}
	for _, d := range y.Deeds {
		lines = append(lines, deedLine(d))
	}
	return lines
}

// Parse returns the yard of a text.
func Parse(text string) (y api.Yard, line int, e api.Errno) {
	if len(text) > api.MaxText {
		return api.Yard{}, 0, api.ErrCount
	}
	y, wrong := readYard(text)
	if wrong > 0 || text == "" {
		return api.Yard{}, wrong, api.ErrText
	}
	if e := CheckYard(y); e != api.OK {
		return api.Yard{}, 0, e
	}
	return y, 0, api.OK
}

// readYard returns the yard of a text, or the number of its first line that does not have its form or its place.
func readYard(text string) (y api.Yard, wrong int) {
	for n, fields := range terms.Lines(text) {
		l, ok := lineOf(fields[0], fields[1:])
		if !ok || !addLine(&y, l, n == 1) {
			return api.Yard{}, n
		}
	}
	return y, 0
}

// addLine adds to a yard what a line says, if the line has its place.
func addLine(y *api.Yard, l line, first bool) bool {
	switch l := l.(type) {
	case restLine:
		y.Before, y.After = l.before, l.after
		return first
	case deedLine:
		y.Deeds = append(y.Deeds, api.Deed(l))
		return !first
	default:
		return false
	}
}

// lineOf returns the line with a word and the fields after it, if it has its form.
func lineOf(word string, fields []string) (l line, ok bool) {
	if word == wordYard {
		return restLineOf(fields)
	}
	f, found := formNamed(word)
	if !found {
		return nil, false
	}
	return deedLineOf(f, fields)
}

func restLineOf(fields []string) (l restLine, ok bool) {
	n, ok := terms.Numbers(fields)
	if !ok || len(n) != 2 {
		return restLine{}, false
	}
	return restLine{n[0], n[1]}, true
}

func deedLineOf(f form, fields []string) (l deedLine, ok bool) {
	codes := 1
	if f.other {
		codes++
	}
	if len(fields) != 1+codes+2*len(f.most) {
		return deedLine{}, false
	}
	day, isDay := terms.Number(fields[0])
	n, areNumbers := terms.Numbers(fields[1+codes:])
	if !isDay || !areNumbers {
		return deedLine{}, false
	}
	n = append(n, 0, 0, 0, 0) // the bounds that are not used are zero
	l = deedLine{Kind: f.kind, Day: day, A: api.Bounds{Min: n[0], Max: n[1]}, B: api.Bounds{Min: n[2], Max: n[3]}}
	l.Stack = strings.Clone(fields[1]) // so that the yard does not hold on to the text
	if f.other {
		l.Other = strings.Clone(fields[2])
	}
	return l, true
}
