package fire

import (
	"strconv"
	"strings"

	"sobreiro/api"
	"sobreiro/terms"
)

// Words of lines.
const (
	wordLand = "land"
	wordRow  = "row"
	wordWall = "wall"
	wordDay  = "day"
)

// Letters of the winds, by their numbers, and what stands for none.
const (
	windLetters = "CNESW"
	noLetters   = "-"
)

// Print returns the text of land and days.
func Print(l api.Land, days []api.FireDay) (string, api.Errno) {
	if e := checkDays(l, days); e != api.OK {
		return "", e
	}
	var b strings.Builder
	b.WriteString(terms.Line(wordLand, l.Width, l.Height, l.Limit, l.Slow))
	for row := range l.Height {
		b.WriteString(printRow(l.Fuel[row*l.Width : (row+1)*l.Width]))
	}
	for _, w := range l.Walls {
		b.WriteString(terms.Line(wordWall, w.A, w.B, w.Hold))
	}
	for _, d := range days {
		b.WriteString(printDay(d))
	}
	if b.Len() > api.MaxText {
		return "", api.ErrCount
	}
	return b.String(), api.OK
}

func printRow(fuels []api.Bounds) string {
	var numbers []int
	for _, f := range fuels {
		numbers = append(numbers, f.Min, f.Max)
	}
	return terms.Line(wordRow, numbers...)
}

func printDay(d api.FireDay) string {
	fields := []string{wordDay, strconv.Itoa(d.Dry.Min), strconv.Itoa(d.Dry.Max), lettersOf(d.Winds)}
	return terms.Line(strings.Join(fields, ";"), d.Hours)
}

func lettersOf(possible [windCount]bool) string {
	letters := ""
	for w, is := range possible {
		if is {
			letters += windLetters[w : w+1]
		}
	}
	if letters == "" {
		return noLetters
	}
	return letters
}

// windsOf returns the winds of which a field has the letter.
func windsOf(field string) (possible [windCount]bool) {
	for w := range possible {
		possible[w] = strings.Contains(field, windLetters[w:w+1])
	}
	return possible
}

// Parse returns the land and the days of a text.
func Parse(text string) (l api.Land, days []api.FireDay, line int, e api.Errno) {
	if len(text) > api.MaxText {
		return api.Land{}, nil, 0, api.ErrCount
	}
	r, wrong := readAll(text)
	if wrong > 0 || r.line == 0 || r.rows > 0 {
		return api.Land{}, nil, wrong, api.ErrText
	}
	if e := checkDays(r.land, r.days); e != api.OK {
		return api.Land{}, nil, 0, e
	}
	return r.land, r.days, 0, api.OK
}

// wrongLine is the number of a line that does not have its form or its place. The reader panics with it.
type wrongLine int

// reader is land and days that are being read.
type reader struct {
	land api.Land
	days []api.FireDay
	line int // the number of the line that is read
	rows int // how many rows are still to come
}

// readAll reads a text up to its end, or returns the number of its first wrong line.
func readAll(text string) (r reader, wrong int) {
	defer func() {
		if line, ok := recover().(wrongLine); ok {
			wrong = int(line)
		}
	}()
	for n, fields := range terms.Lines(text) {
		r.line = n
		r.read(fields[0], fields[1:])
	}
	return r, 0
}

// need gives up on the line if it does not have what it needs.
func (r *reader) need(ok bool) {
	if !ok {
		panic(wrongLine(r.line))
	}
}

// read reads a line. The lines before it had their forms.
func (r *reader) read(word string, fields []string) {
	switch {
	case r.line == 1:
		r.need(word == wordLand)
		r.readLand(fields)
	case r.rows > 0:
		r.need(word == wordRow)
		r.readRow(fields)
	case word == wordWall:
		r.readWall(fields)
	default:
		r.need(word == wordDay)
		r.readDay(fields)
	}
}

// numbers reads so many fields, which all are numbers.
func (r *reader) numbers(fields []string, many int) []int {
	l, ok := terms.Numbers(fields)
	r.need(ok && len(l) == many)
	return l
}

func (r *reader) readLand(fields []string) {
	n := r.numbers(fields, 4)
	r.land = api.Land{Width: n[0], Height: n[1], Limit: n[2], Slow: n[3]}
	if isSide(r.land.Height) {
		r.rows = r.land.Height
	}
}

func (r *reader) readRow(fields []string) {
	r.need(len(fields) > 0 && len(fields)%2 == 0)
	n := r.numbers(fields, len(fields))
	for i := 0; i < len(n); i += 2 {
		r.land.Fuel = append(r.land.Fuel, api.Bounds{Min: n[i], Max: n[i+1]})
	}
	r.rows--
}

func (r *reader) readWall(fields []string) {
	r.need(len(r.days) == 0)
	n := r.numbers(fields, 3)
	r.land.Walls = append(r.land.Walls, api.Wall{A: n[0], B: n[1], Hold: n[2]})
}

func (r *reader) readDay(fields []string) {
	r.need(len(fields) == 4)
	dry, hours := r.numbers(fields[:2], 2), r.numbers(fields[3:], 1)
	d := api.FireDay{Dry: api.Bounds{Min: dry[0], Max: dry[1]}, Hours: hours[0]}
	d.Winds = windsOf(fields[2])
	// Letters that are twice there, in another order or of no wind are printed otherwise.
	r.need(lettersOf(d.Winds) == fields[2])
	r.days = append(r.days, d)
}
