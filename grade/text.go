package grade

import (
	"errors"
	"slices"
	"strconv"
	"strings"

	"sobreiro/api"
	"sobreiro/terms"
)

// Words of lines.
const (
	wordPanel  = "panel"
	wordGrader = "grader"
	wordClass  = "class"
	wordPair   = "pair"
)

func (o opinion) line() (word string, numbers []int) {
	return wordClass, []int{o.Item, o.Class}
}

func (r pair) line() (word string, numbers []int) {
	return wordPair, []int{r.Better, r.Worse, r.By}
}

// Print returns the text of a panel.
func Print(p api.Panel) (string, api.Errno) {
	if e := Check(p); e != api.OK {
		return "", e
	}
	var b strings.Builder
	b.WriteString(terms.Line(wordPanel, slices.Concat([]int{p.Items}, p.Cuts)...))
	for _, g := range p.Graders {
		b.WriteString(terms.Line(wordGrader+";"+g.Code, g.Bias.Min, g.Bias.Max))
	}
	for _, j := range judgementsOf(p) {
		word, numbers := j.line()
		b.WriteString(terms.Line(word+";"+p.Graders[j.judge()].Code, numbers...))
	}
	if b.Len() > api.MaxText {
		return "", api.ErrCount
	}
	return b.String(), api.OK
}

// Parse returns the panel of a text.
func Parse(text string) (p api.Panel, line int, e api.Errno) {
	if len(text) > api.MaxText {
		return api.Panel{}, 0, api.ErrCount
	}
	p, err := readPanel(text)
	var wrong wrongLine
	if errors.As(err, &wrong) {
		return api.Panel{}, wrong.line, wrong.e
	}
	if e := Check(p); e != api.OK {
		return api.Panel{}, 0, e
	}
	return p, 0, api.OK
}

// wrongLine is that a line has an error, or that there is none: its number is 0 then.
type wrongLine struct {
	line int
	e    api.Errno
}

func (w wrongLine) Error() string {
	return "line " + strconv.Itoa(w.line) + ": error " + strconv.Itoa(int(w.e))
}

// readPanel returns the panel of a text, or its first wrong line.
func readPanel(text string) (api.Panel, error) {
	r := reader{graders: map[string]int{}}
	for n, fields := range terms.Lines(text) {
		r.line = n
		if e := r.read(fields[0], fields[1:]); e != api.OK {
			return api.Panel{}, wrongLine{n, e}
		}
	}
	if r.line == 0 {
		return api.Panel{}, wrongLine{0, api.ErrText}
	}
	return r.panel, nil
}

// reader is a panel that is being read.
type reader struct {
	panel   api.Panel
	graders map[string]int // the index of the first grader with a code
	line    int            // the number of the line that is read
}

// read reads a line, or returns its error. The lines before it had none.
func (r *reader) read(word string, fields []string) api.Errno {
	switch {
	case (word == wordPanel) != (r.line == 1) || len(fields) == 0:
		return api.ErrText
	case word == wordPanel:
		return r.readPanel(fields)
	}
	code := fields[0]
	n, ok := terms.Numbers(fields[1:])
	if !ok || !r.hasPlace(word, len(n)) {
		return api.ErrText
	}
	if word == wordGrader {
		r.addGrader(code, api.Bounds{Min: n[0], Max: n[1]})
		return api.OK
	}
	grader, found := r.graders[code]
	if !found {
		return api.ErrMissing
	}
	r.addJudgement(grader, n)
	return api.OK
}

func (r *reader) readPanel(fields []string) api.Errno {
	n, ok := terms.Numbers(fields)
	if !ok {
		return api.ErrText
	}
	r.panel.Items, r.panel.Cuts = n[0], n[1:]
	return api.OK
}

// hasPlace says whether a line with a word and so many numbers after its code has a form, and none is before it that comes after it.
func (r *reader) hasPlace(word string, numbers int) bool {
	p := r.panel
	switch word {
	case wordGrader:
		return numbers == 2 && len(p.Opinions)+len(p.Pairs) == 0
	case wordClass:
		return numbers == 2 && len(p.Pairs) == 0
	case wordPair:
		return numbers == 3
	default:
		return false
	}
}

func (r *reader) addGrader(code string, bias api.Bounds) {
	code = strings.Clone(code) // so that the panel does not hold on to the text
	if _, found := r.graders[code]; !found {
		r.graders[code] = len(r.panel.Graders)
	}
	r.panel.Graders = append(r.panel.Graders, api.Grader{Code: code, Bias: bias})
}

// addJudgement adds an opinion or a pair, which has a number more.
func (r *reader) addJudgement(grader int, n []int) {
	if len(n) == 2 {
		r.panel.Opinions = append(r.panel.Opinions, api.Opinion{Grader: grader, Item: n[0], Class: n[1]})
	} else {
		r.panel.Pairs = append(r.panel.Pairs, api.Pair{Grader: grader, Better: n[0], Worse: n[1], By: n[2]})
	}
}
