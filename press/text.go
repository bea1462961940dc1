package press

import (
	"errors"
	"strconv"
	"strings"

	"sobreiro/api"
	"sobreiro/terms"
)

// Words of lines.
const (
	wordPress = "press"
	wordStep  = "step"
	wordCork  = "cork"
)

// Print returns the text of a press and corks.
func Print(p api.Press, l []api.Cork) (string, api.Errno) {
	if e := checkText(p, l); e != api.OK {
		return "", e
	}
	var b strings.Builder
	b.WriteString(terms.Line(wordPress, p.Jaw, p.Crush, p.Grip, p.Limit))
	for _, s := range p.Steps {
		b.WriteString(terms.Line(wordStep, s.From, s.Springs.Min, s.Springs.Max, s.Breathes.Min, s.Breathes.Max))
	}
	for _, c := range l {
		b.WriteString(terms.Line(wordCork, c.Width.Min, c.Width.Max, c.Length.Min, c.Length.Max, c.Density.Min, c.Density.Max))
	}
	if b.Len() > api.MaxText {
		return "", api.ErrCount
	}
	return b.String(), api.OK
}

// Parse returns the press and the corks of a text.
func Parse(text string) (p api.Press, l []api.Cork, line int, e api.Errno) {
	if len(text) > api.MaxText {
		return api.Press{}, nil, 0, api.ErrCount
	}
	p, l, err := read(text)
	var wrong wrongLine
	if errors.As(err, &wrong) {
		return api.Press{}, nil, int(wrong), api.ErrText
	}
	if e := checkText(p, l); e != api.OK {
		return api.Press{}, nil, 0, e
	}
	return p, l, 0, api.OK
}

// wrongLine is the number of a line that does not have its form or its place, 0 if there is no line.
type wrongLine int

func (w wrongLine) Error() string { return "line " + strconv.Itoa(int(w)) + " is wrong" }

// read returns what the lines of a text say, or the first wrong line.
func read(text string) (api.Press, []api.Cork, error) {
	if text == "" {
		return api.Press{}, nil, wrongLine(0)
	}
	var r reader
	for number, fields := range terms.Lines(text) {
		n, ok := terms.Numbers(fields[1:])
		if !ok || !r.add(number == 1, fields[0], n) {
			return api.Press{}, nil, wrongLine(number)
		}
	}
	return r.press, r.corks, nil
}

// reader is a press and corks that are being read.
type reader struct {
	press api.Press
	corks []api.Cork
}

// add adds what a line says, if it has its form and its place.
func (r *reader) add(isFirst bool, word string, n []int) bool {
	switch {
	case isFirst != (word == wordPress):
		return false
	case word == wordPress && len(n) == 4:
		r.press = api.Press{Jaw: n[0], Crush: n[1], Grip: n[2], Limit: n[3]}
	case word == wordStep && len(n) == 5 && len(r.corks) == 0:
		r.press.Steps = append(r.press.Steps, api.Step{From: n[0], Springs: boundsOf(n[1:]), Breathes: boundsOf(n[3:])})
	case word == wordCork && len(n) == 6:
		r.corks = append(r.corks, api.Cork{Width: boundsOf(n), Length: boundsOf(n[2:]), Density: boundsOf(n[4:])})
	default:
		return false
	}
	return true
}

// boundsOf returns the bounds that two numbers begin a list with.
func boundsOf(n []int) api.Bounds { return api.Bounds{Min: n[0], Max: n[1]} }
