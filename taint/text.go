package taint

import (
	"errors"
	"strconv"
	"strings"

	"sobreiro/api"
	"sobreiro/terms"
)

// Words of lines.
const (
	wordLot   = "lot"
	wordPlank = "plank"
	wordCork  = "cork"
	wordPool  = "pool"
)

// Print returns the text of a lot.
func Print(l api.Lot) (string, api.Errno) {
	if e := Check(l); e != api.OK {
		return "", e
	}
	var b strings.Builder
	b.WriteString(terms.Line(wordLot, l.Most))
	for _, code := range l.Planks {
		b.WriteString(terms.Line(wordPlank + ";" + code))
	}
	for _, plank := range l.Corks {
		b.WriteString(terms.Line(wordCork + ";" + l.Planks[plank]))
	}
	for _, p := range l.Pools {
		o, _ := outcomeOf(p.Result)
		b.WriteString(terms.Line(strings.Join([]string{wordPool, strconv.Itoa(p.Need), o.letter}, ";"), p.Corks...))
	}
	if b.Len() > api.MaxText {
		return "", api.ErrCount
	}
	return b.String(), api.OK
}

// Parse returns the lot of a text.
func Parse(text string) (l api.Lot, line int, e api.Errno) {
	if len(text) > api.MaxText {
		return api.Lot{}, 0, api.ErrCount
	}
	l, err := readLot(text)
	var wrong wrongLine
	if errors.As(err, &wrong) {
		return api.Lot{}, wrong.line, errnoOf(wrong)
	}
	if e := Check(l); e != api.OK {
		return api.Lot{}, 0, e
	}
	return l, 0, api.OK
}

// What is wrong with a line.
var (
	errForm  = errors.New("it does not have its form or its place")
	errPlank = errors.New("no line before it has the plank of its cork")
)

// wrongLine is what is wrong with the line that has a number, 0 if there is no line.
type wrongLine struct {
	line int
	err  error
}

func (w wrongLine) Error() string { return "line " + strconv.Itoa(w.line) + ": " + w.err.Error() }

func (w wrongLine) Unwrap() error { return w.err }

// errnoOf returns the number of the error of a wrong line.
func errnoOf(err error) api.Errno {
	if errors.Is(err, errPlank) {
		return api.ErrMissing
	}
	return api.ErrText
}

// readLot returns the lot of a text, or its first wrong line.
func readLot(text string) (api.Lot, error) {
	r := reader{planks: map[string]int{}}
	for n, fields := range terms.Lines(text) {
		r.line = n
		if err := r.read(fields[0], fields[1:]); err != nil {
			return api.Lot{}, wrongLine{n, err}
		}
	}
	if r.line == 0 {
		return api.Lot{}, wrongLine{0, errForm}
	}
	return r.lot, nil
}

// reader is a lot that is being read.
type reader struct {
	lot    api.Lot
	planks map[string]int // the index of the first plank with a code
	line   int            // the number of the line that is read
}

// read reads a line, or returns what is wrong with it. Nothing was wrong with those before it.
func (r *reader) read(word string, fields []string) error {
	corks, pools := len(r.lot.Corks), len(r.lot.Pools)
	switch {
	case (word == wordLot) != (r.line == 1):
		return errForm
	case word == wordLot:
		return r.readMost(fields)
	case word == wordPlank && corks == 0 && pools == 0:
		return r.readPlank(fields)
	case word == wordCork && pools == 0:
		return r.readCork(fields)
	case word == wordPool:
		return r.readPool(fields)
	default:
		return errForm
	}
}

func (r *reader) readMost(fields []string) error {
	n, ok := terms.Numbers(fields)
	if !ok || len(n) != 1 {
		return errForm
	}
	r.lot.Most = n[0]
	return nil
}

func (r *reader) readPlank(fields []string) error {
	if len(fields) != 1 {
		return errForm
	}
	code := strings.Clone(fields[0]) // so that the lot does not hold on to the text
	if _, found := r.planks[code]; !found {
		r.planks[code] = len(r.lot.Planks)
	}
	r.lot.Planks = append(r.lot.Planks, code)
	return nil
}

func (r *reader) readCork(fields []string) error {
	if len(fields) != 1 {
		return errForm
	}
	plank, found := r.planks[fields[0]]
	if !found {
		return errPlank
	}
	r.lot.Corks = append(r.lot.Corks, plank)
	return nil
}

func (r *reader) readPool(fields []string) error {
	if len(fields) < 2 {
		return errForm
	}
	need, isNumber := terms.Number(fields[0])
	o, isResult := outcomeWith(fields[1])
	corks, areNumbers := terms.Numbers(fields[2:])
	if !isNumber || !isResult || !areNumbers {
		return errForm
	}
	r.lot.Pools = append(r.lot.Pools, api.Pool{Corks: corks, Need: need, Result: o.result})
	return nil
}
