package ring

import (
	"strings"

	"sobreiro/api"
	"sobreiro/terms"
)

// Words of lines.
const (
	wordAge  = "age"
	wordGrow = "grow"
	wordDry  = "dry"
	wordNext = "next"
	wordYear = "year"
)

// Letters of the kinds of a year, by their numbers, and what stands for none.
const (
	kindLetters = "DMW"
	noLetters   = "-"
)

// Print returns the text of a site and a climate.
func Print(s api.Site, c api.Climate) (string, api.Errno) {
	if e := checkBoth(s, c); e != api.OK {
		return "", e
	}
	var b strings.Builder
	b.WriteString(terms.Line(wordAge, s.Age...))
	for k, grow := range s.Grow {
		b.WriteString(terms.Line(wordGrow, k, grow.Min, grow.Max))
	}
	b.WriteString(terms.Line(wordDry, c.Dry.Min, c.Dry.Max))
	for before, can := range c.Next {
		for k, follows := range can {
			if follows {
				b.WriteString(terms.Line(wordNext, before, k))
			}
		}
	}
	for _, kinds := range c.Years {
		b.WriteString(terms.Line(wordYear + ";" + lettersOf(kinds)))
	}
	if b.Len() > api.MaxText {
		return "", api.ErrCount
	}
	return b.String(), api.OK
}

func lettersOf(kinds api.Kinds) string {
	if kinds == (api.Kinds{}) {
		return noLetters
	}
	letters := ""
	for k, possible := range kinds {
		if possible {
			letters += kindLetters[k : k+1]
		}
	}
	return letters
}

// kindsOf returns the kinds of which a field has the letter.
func kindsOf(field string) (kinds api.Kinds) {
	for k := range kinds {
		kinds[k] = strings.Contains(field, kindLetters[k:k+1])
	}
	return kinds
}

// Parse returns the site and the climate of a text.
func Parse(text string) (s api.Site, c api.Climate, line int, e api.Errno) {
	if len(text) > api.MaxText {
		return api.Site{}, api.Climate{}, 0, api.ErrCount
	}
	r, wrong := readAll(text)
	if wrong > 0 || r.line < lineDry {
		return api.Site{}, api.Climate{}, wrong, api.ErrText
	}
	if e := checkBoth(r.site, r.climate); e != api.OK {
		return api.Site{}, api.Climate{}, 0, e
	}
	return r.site, r.climate, 0, api.OK
}

// Numbers of lines.
const (
	lineAge  = 1
	lineGrow = 2 // the first of three
	lineDry  = 5
)

// wrongLine is the number of a line that does not have its form or its place. The reader panics with it.
type wrongLine int

// reader is a site and a climate that are being read.
type reader struct {
	site    api.Site
	climate api.Climate
	line    int // the number of the line that is read
	pair    int // the number of the pair that the last line next had, from 1
}

// readAll reads a text up to its end, or returns the number of its first wrong line.
func readAll(text string) (r reader, wrong int) {
	defer func() {
		if line, ok := recover().(wrongLine); ok {
			wrong = int(line)
		}
	}()
	for n, fields := range terms.Lines(text) {
		r.line = n
		r.read(fields[0], fields[1:])
	}
	return r, 0
}

// need gives up on the line if it does not have what it needs.
func (r *reader) need(ok bool) {
	if !ok {
		panic(wrongLine(r.line))
	}
}

// read reads a line. The lines before it had their forms, so that its number tells its place.
func (r *reader) read(word string, fields []string) {
	switch {
	case r.line == lineAge:
		r.need(word == wordAge)
		r.readAge(fields)
	case r.line < lineDry:
		r.need(word == wordGrow)
		r.readGrow(fields, r.line-lineGrow)
	case r.line == lineDry:
		r.need(word == wordDry)
		r.readDry(fields)
	case word == wordNext:
		r.readNext(fields)
	default:
		r.need(word == wordYear)
		r.readYear(fields)
	}
}

// numbers reads so many fields, which all are numbers.
func (r *reader) numbers(fields []string, many int) []int {
	l, ok := terms.Numbers(fields)
	r.need(ok && len(l) == many)
	return l
}

func (r *reader) readAge(fields []string) {
	r.need(len(fields) > 0)
	r.site.Age = r.numbers(fields, len(fields))
}

func (r *reader) readGrow(fields []string, kind int) {
	n := r.numbers(fields, 3)
	r.need(n[0] == kind)
	r.site.Grow[kind] = api.Bounds{Min: n[1], Max: n[2]}
}

func (r *reader) readDry(fields []string) {
	n := r.numbers(fields, 2)
	r.climate.Dry = api.Bounds{Min: n[0], Max: n[1]}
}

func (r *reader) readNext(fields []string) {
	r.need(len(r.climate.Years) == 0)
	n := r.numbers(fields, 2)
	before, kind := n[0], n[1]
	r.need(isKind(before) && isKind(kind))
	pair := 1 + len(r.climate.Next)*before + kind
	r.need(pair > r.pair)
	r.pair = pair
	r.climate.Next[before][kind] = true
}

func isKind(n int) bool { return terms.Within(n, int(api.RgDry), int(api.RgWet)) }

func (r *reader) readYear(fields []string) {
	r.need(len(fields) == 1)
	kinds := kindsOf(fields[0])
	// Letters that are twice there, in another order or of no kind are printed otherwise.
	r.need(lettersOf(kinds) == fields[0])
	r.climate.Years = append(r.climate.Years, kinds)
}
