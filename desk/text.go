package desk

import (
	"errors"
	"strconv"
	"strings"

	"sobreiro/api"
	"sobreiro/terms"
	"sobreiro/tree"
	"sobreiro/yard"
)

// Words of lines. Those of the forest are the words of tree's lines; a line with another one is that of a deed.
const (
	wordWorks   = "works"
	wordPartner = "partner"
	wordLaw     = "law"
	wordTree    = "tree"
	wordStrip   = "strip"
	wordWound   = "wound"
	wordCut     = "cut"
	wordHire    = "hire"
	wordPile    = "pile"
)

// emptyYard is the first line of a yard, of which a deed's line is the second one.
const emptyYard = "yard;0;0\n"

// textError is what is wrong with a line of a text, which has a number, or with all of it: 0.
type textError struct {
	line int
	e    api.Errno
}

func (t textError) Error() string {
	return "line " + strconv.Itoa(t.line) + ": error " + strconv.Itoa(int(t.e))
}

// line is a line of a text.
type line interface{ text() string }

type (
	worksLine   api.Works
	partnerLine api.Partner
	forestLine  string // or all lines of a forest
	entryLine   struct {
		api.Entry
		e api.Errno // that its deed has in itself
	}
)

func (l worksLine) text() string {
	return terms.Line(wordWorks, l.Year, l.Price, l.Commons, l.Wage, l.Before, l.After, l.Weight, l.Wet)
}

func (l partnerLine) text() string { return terms.Line(wordPartner+";"+l.Code, l.Part) }

func (l forestLine) text() string { return string(l) }

func (l entryLine) text() string {
	switch l.Kind {
	case api.DkCut:
		return terms.Line(strings.Join([]string{wordCut, strconv.Itoa(l.Day), l.Tree}, ";"), l.N)
	case api.DkHire:
		return terms.Line(wordHire, l.Day, l.N)
	default:
		text, _ := yard.Print(api.Yard{Deeds: []api.Deed{l.Deed}})
		return strings.TrimPrefix(text, emptyYard)
	}
}

// Print returns the text of works.
func Print(w api.Works) (string, api.Errno) {
	if e := CheckWorks(w); e != api.OK {
		return "", e
	}
	var b strings.Builder
	for _, l := range linesOf(w) {
		b.WriteString(l.text())
	}
	if b.Len() > api.MaxText {
		return "", api.ErrCount
	}
	return b.String(), api.OK
}

func linesOf(w api.Works) []line {
	lines := []line{worksLine(w)}
	for _, p := range w.Partners {
		lines = append(lines, partnerLine(p))
	}
	forest, _ := tree.Print(w.Forest)
	lines = append(lines, forestLine(forest))
	for _, n := range w.Entries {
		lines = append(lines, entryLine{Entry: n})
	}
	return lines
}

// Parse returns the works of a text.
func Parse(text string) (w api.Works, line int, e api.Errno) {
	w, err := parsed(text)
	var wrong textError
	if errors.As(err, &wrong) {
		return api.Works{}, wrong.line, wrong.e
	}
	return w, 0, api.OK
}

// parsed returns the works of a text, or what is wrong first.
func parsed(text string) (api.Works, error) {
	if len(text) > api.MaxText {
		return api.Works{}, textError{0, api.ErrCount}
	}
	var r reader
	wrong := r.read(text)
	// The lines of the forest stand before a line that is wrong, and before all entries.
	f, line, e := tree.Parse(r.forest.String())
	if line > 0 {
		wrong = r.law + line - 1
	}
	if wrong > 0 || r.law == 0 {
		return api.Works{}, textError{wrong, api.ErrText}
	}
	r.works.Forest = f
	if e := checkWorks(r.works, e, r.deeds); e != api.OK {
		return api.Works{}, textError{0, e}
	}
	return r.works, nil
}

// reader is works that are being read.
type reader struct {
	works  api.Works
	deeds  []api.Errno     // the error that each entry's deed has in itself
	law    int             // the number of the first line of the forest
	forest strings.Builder // the lines of the forest
}

// read reads lines, up to the first one that does not have its form or its place, of which it returns the number. Lines of the forest are only laid aside.
func (r *reader) read(text string) (wrong int) {
	for n, fields := range terms.Lines(text) {
		if (n == 1) != (fields[0] == wordWorks) {
			return n
		}
		l, ok := lineOf(fields[0], fields[1:])
		if !ok || !r.add(n, l) {
			return n
		}
	}
	return 0
}

// add adds what a line says, if it has its place. There is one worksLine, the first one.
func (r *reader) add(number int, l line) bool {
	switch l := l.(type) {
	case worksLine:
		r.works = api.Works(l)
		return true
	case partnerLine:
		r.works.Partners = append(r.works.Partners, api.Partner(l))
		return r.law == 0
	case forestLine:
		return r.addForest(number, l)
	case entryLine:
		r.works.Entries = append(r.works.Entries, l.Entry)
		r.deeds = append(r.deeds, l.e)
		return r.law > 0
	default:
		return false
	}
}

// addForest lays a line of the forest aside, if no entry stands before it.
func (r *reader) addForest(number int, l forestLine) bool {
	if len(r.works.Entries) > 0 {
		return false
	}
	if r.law == 0 {
		r.law = number
	}
	r.forest.WriteString(l.text())
	return true
}

// lineOf returns the line with a word and the fields after it, if it has its form.
func lineOf(word string, fields []string) (l line, ok bool) {
	switch word {
	case wordWorks:
		return worksLineOf(fields)
	case wordPartner:
		return partnerLineOf(fields)
	case wordLaw, wordTree, wordStrip, wordWound:
		return forestLine(joined(word, fields)), true
	case wordCut:
		return cutLineOf(fields)
	case wordHire:
		return hireLineOf(fields)
	case wordPile:
		return nil, false
	default:
		return deedLineOf(word, fields)
	}
}

// joined returns a line as it was.
func joined(word string, fields []string) string {
	return strings.Join(append([]string{word}, fields...), ";") + "\n"
}

func worksLineOf(fields []string) (l worksLine, ok bool) {
	n, ok := terms.Numbers(fields)
	if !ok || len(n) != 8 {
		return worksLine{}, false
	}
	return worksLine{Year: n[0], Price: n[1], Commons: n[2], Wage: n[3], Before: n[4], After: n[5], Weight: n[6], Wet: n[7]}, true
}

func partnerLineOf(fields []string) (l partnerLine, ok bool) {
	if len(fields) != 2 {
		return partnerLine{}, false
	}
	part, ok := terms.Number(fields[1])
	return partnerLine{Code: strings.Clone(fields[0]), Part: part}, ok // so that the works do not hold on to the text
}

func cutLineOf(fields []string) (l entryLine, ok bool) {
	if len(fields) != 3 {
		return entryLine{}, false
	}
	day, isDay := terms.Number(fields[0])
	height, isHeight := terms.Number(fields[2])
	l.Entry = api.Entry{Kind: api.DkCut, Day: day, Tree: strings.Clone(fields[1]), N: height}
	return l, isDay && isHeight
}

func hireLineOf(fields []string) (l entryLine, ok bool) {
	n, ok := terms.Numbers(fields)
	if !ok || len(n) != 2 {
		return entryLine{}, false
	}
	l.Entry = api.Entry{Kind: api.DkHire, Day: n[0], N: n[1]}
	return l, true
}

// deedLineOf returns the line of a deed, as yard reads it. Of a deed that has an error only the day is known. (A line that stands after that of the works never is too long for yard.)
func deedLineOf(word string, fields []string) (l entryLine, ok bool) {
	y, wrong, e := yard.Parse(emptyYard + joined(word, fields))
	if wrong > 0 {
		return entryLine{}, false
	}
	day, _ := terms.Number(fields[0])
	l = entryLine{api.Entry{Kind: api.DkDeed, Day: day, Deed: api.Deed{Day: day}}, e}
	if e == api.OK {
		l.Deed = y.Deeds[0]
	}
	return l, true
}
