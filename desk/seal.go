package desk

import (
	"errors"
	"slices"
	"strings"

	"sobreiro/api"
	"sobreiro/terms"
)

// Words of the lines of pages, and what the others begin with.
const (
	wordPage = "page"
	wordSum  = "sum"
	mark     = "|"
)

// pageSum returns a function that reads lines of a page, with their line feeds, and returns the sum of all that it has read.
func pageSum() func(line string) int {
	const modulus = 65521 // a prime above all places and all bytes, so that it divides none of their products
	place, sum := 0, 0
	return func(line string) int {
		for _, c := range []byte(line) {
			place++
			sum = (sum + int(c)*place) % modulus
		}
		return sum
	}
}

// Seal writes lines in pages.
func Seal(lines []string) (string, api.Errno) {
	if len(lines) > api.MaxLines {
		return "", api.ErrCount
	}
	if slices.ContainsFunc(lines, func(line string) bool { return len(line) > api.MaxLine || strings.Contains(line, "\n") }) {
		return "", api.ErrText
	}
	var b strings.Builder
	page := 0
	for part := range slices.Chunk(lines, api.MaxPageLines) {
		page++
		b.WriteString(sealed(page, part))
	}
	return b.String(), api.OK
}

// sealed returns a page.
func sealed(page int, lines []string) string {
	text := terms.Line(wordPage, page, len(lines))
	for _, line := range lines {
		text += mark + line + "\n"
	}
	return text + terms.Line(wordSum, pageSum()(text))
}

// Open reads what Seal writes.
func Open(text string) (lines []string, line int, e api.Errno) {
	lines, err := opened(text)
	var wrong textError
	if errors.As(err, &wrong) {
		return nil, wrong.line, wrong.e
	}
	return lines, 0, api.OK
}

// opened returns the lines that are in pages, or what is wrong first.
func opened(text string) ([]string, error) {
	if len(text) > api.MaxSealed {
		return nil, textError{0, api.ErrCount}
	}
	var p pages
	number := 0
	for line := range strings.Lines(text) {
		number++
		if e := p.read(line); e != api.OK {
			return nil, textError{number, e}
		}
	}
	switch {
	case p.isOpen:
		return nil, textError{number + 1, api.ErrText}
	case len(p.lines) > api.MaxLines:
		return nil, textError{0, api.ErrCount}
	}
	return p.lines, nil
}

// pages is pages that are being read.
type pages struct {
	lines  []string
	page   int  // the number of the last page that began
	size   int  // how many lines it has
	left   int  // how many of these are still to be read
	isOpen bool // its sum is still to be read
	sum    func(line string) int
}

// read reads a line with its line feed, or returns its error.
func (p *pages) read(line string) api.Errno {
	content, isWhole := strings.CutSuffix(line, "\n")
	switch {
	case !isWhole:
		return api.ErrText
	case !p.isOpen:
		return p.begin(content)
	case p.left > 0:
		return p.add(content)
	default:
		return p.end(content)
	}
}

// begin reads the first line of a page.
func (p *pages) begin(line string) api.Errno {
	n, ok := numbersAfter(wordPage, line, 2)
	if !ok || !terms.Within(n[1], 1, api.MaxPageLines) || p.page > 0 && p.size < api.MaxPageLines {
		return api.ErrText
	}
	if n[0] != p.page+1 {
		return api.ErrOrder
	}
	p.page, p.size, p.left, p.isOpen, p.sum = n[0], n[1], n[1], true, pageSum()
	p.sum(line + "\n")
	return api.OK
}

// add reads one of the lines of a page.
func (p *pages) add(line string) api.Errno {
	content, isMarked := strings.CutPrefix(line, mark)
	if !isMarked || len(content) > api.MaxLine {
		return api.ErrText
	}
	p.lines = append(p.lines, strings.Clone(content)) // so that it does not hold on to the text
	p.left--
	p.sum(line + "\n")
	return api.OK
}

// end reads the last line of a page.
func (p *pages) end(line string) api.Errno {
	n, ok := numbersAfter(wordSum, line, 1)
	if !ok {
		return api.ErrText
	}
	if n[0] != p.sum("") {
		return api.ErrAgainst
	}
	p.isOpen = false
	return api.OK
}

// numbersAfter returns the numbers of a line that has a word and so many of them.
func numbersAfter(word, line string, many int) (l []int, ok bool) {
	fields := strings.Split(line, ";")
	l, ok = terms.Numbers(fields[1:])
	return l, ok && fields[0] == word && len(l) == many
}
