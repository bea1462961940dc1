package cycle

import (
	"strconv"
	"strings"

	"sobreiro/api"
	"sobreiro/terms"
)

// Words of lines.
const (
	wordScheme = "scheme"
	wordStand  = "stand"
	wordYield  = "yield"
	wordStrip  = "strip"
)

// Print returns the text of a scheme and a plan.
func Print(s api.Scheme, plan [][]int) (string, api.Errno) {
	if e := checkPlan(s, plan); e != api.OK {
		return "", e
	}
	var b strings.Builder
	b.WriteString(terms.Line(wordScheme, s.Rest, s.Term, s.Floor, s.Teams, s.Price, s.Wage, s.Left))
	for _, t := range s.Stands {
		b.WriteString(printStand(t))
	}
	for year, stripped := range plan {
		for _, stand := range stripped {
			b.WriteString(printStrip(year, s.Stands[stand].Code))
		}
	}
	if b.Len() > api.MaxText {
		return "", api.ErrCount
	}
	return b.String(), api.OK
}

func printStand(t api.Stand) string {
	text := terms.Line(wordStand+";"+t.Code, t.Trees, t.Dies, t.Since, t.Days)
	for _, y := range t.Yields {
		text += terms.Line(wordYield, y.Min, y.Max)
	}
	return text
}

func printStrip(year int, code string) string {
	return terms.Line(strings.Join([]string{wordStrip, strconv.Itoa(year), code}, ";"))
}

// Parse returns the scheme and the plan of a text.
func Parse(text string) (s api.Scheme, plan [][]int, line int, e api.Errno) {
	if len(text) > api.MaxText {
		return api.Scheme{}, nil, 0, api.ErrCount
	}
	r, wrong := readAll(text)
	if wrong > 0 || r.line == 0 {
		return api.Scheme{}, nil, wrong, api.ErrText
	}
	if e := CheckScheme(r.scheme); e != api.OK {
		return api.Scheme{}, nil, 0, e
	}
	plan, wrong, e = planOf(r.scheme, r.strips)
	if e != api.OK {
		return api.Scheme{}, nil, wrong, e
	}
	return r.scheme, plan, 0, api.OK
}

// stripLine is a line that says when a stand is stripped, and its number.
type stripLine struct {
	line, year int
	code       string
}

// planOf returns the plan that lines tell, or the number of the first line with an error.
func planOf(s api.Scheme, strips []stripLine) (plan [][]int, wrong int, e api.Errno) {
	plan = make([][]int, s.Term)
	lastYear, lastStand := 0, noStand
	for _, p := range strips {
		stand := findStand(s.Stands, p.code)
		switch {
		case !terms.Within(p.year, 0, s.Term-1):
			return nil, p.line, api.ErrValue
		case stand == noStand:
			return nil, p.line, api.ErrMissing
		case p.year < lastYear || p.year == lastYear && stand <= lastStand:
			return nil, p.line, api.ErrOrder
		}
		plan[p.year] = append(plan[p.year], stand)
		lastYear, lastStand = p.year, stand
	}
	return plan, 0, api.OK
}

// reader is a scheme, and the strips of a plan, that are being read.
type reader struct {
	scheme api.Scheme
	strips []stripLine
	line   int // the number of the line that is read
}

// readAll reads a text up to its end, or returns the number of its first line that does not have its form or its place.
func readAll(text string) (r reader, wrong int) {
	for n, fields := range terms.Lines(text) {
		r.line = n
		if !r.read(fields[0], fields[1:]) {
			return reader{}, n
		}
	}
	return r, 0
}

// read reads a line, if it has its form and its place. The lines before it had theirs.
func (r *reader) read(word string, fields []string) bool {
	switch {
	case r.line == 1:
		return word == wordScheme && r.readScheme(fields)
	case word == wordStrip:
		return r.readStrip(fields)
	case len(r.strips) > 0:
		return false
	case word == wordStand:
		return r.readStand(fields)
	case word == wordYield:
		return r.readYield(fields)
	default:
		return false
	}
}

// numbersOf reads so many fields, which all are numbers.
func numbersOf(fields []string, many int) (l []int, ok bool) {
	l, ok = terms.Numbers(fields)
	return l, ok && len(l) == many
}

func (r *reader) readScheme(fields []string) bool {
	n, ok := numbersOf(fields, 7)
	if ok {
		r.scheme = api.Scheme{Rest: n[0], Term: n[1], Floor: n[2], Teams: n[3], Price: n[4], Wage: n[5], Left: n[6]}
	}
	return ok
}

func (r *reader) readStand(fields []string) bool {
	if len(fields) == 0 {
		return false
	}
	n, ok := numbersOf(fields[1:], 4)
	if ok {
		code := strings.Clone(fields[0]) // so that the scheme does not hold on to the text
		r.scheme.Stands = append(r.scheme.Stands, api.Stand{Code: code, Trees: n[0], Dies: n[1], Since: n[2], Days: n[3]})
	}
	return ok
}

func (r *reader) readYield(fields []string) bool {
	n, ok := numbersOf(fields, 2)
	if !ok || len(r.scheme.Stands) == 0 {
		return false
	}
	t := &r.scheme.Stands[len(r.scheme.Stands)-1]
	t.Yields = append(t.Yields, api.Bounds{Min: n[0], Max: n[1]})
	return true
}

func (r *reader) readStrip(fields []string) bool {
	if len(fields) != 2 {
		return false
	}
	year, ok := terms.Number(fields[0])
	r.strips = append(r.strips, stripLine{r.line, year, fields[1]})
	return ok
}
