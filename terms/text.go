package terms

import (
	"iter"
	"strconv"
	"strings"
)

// largest is the greatest number that a text can have: nine digits.
const largest = 999999999

// Number reads a field that is a number.
func Number(field string) (n int, ok bool) {
	n, err := strconv.Atoi(field)
	// Atoi also reads a plus sign, leading zeros and -0, which a number is never printed with.
	if err != nil || !Within(n, -largest, largest) || strconv.Itoa(n) != field {
		return 0, false
	}
	return n, true
}

// Numbers reads fields that all are numbers.
func Numbers(fields []string) (l []int, ok bool) {
	for _, field := range fields {
		n, ok := Number(field)
		if !ok {
			return nil, false
		}
		l = append(l, n)
	}
	return l, true
}

// Lines yields the number, from 1, and the fields of each line of a text.
func Lines(text string) iter.Seq2[int, []string] {
	return func(yield func(int, []string) bool) {
		rest := text
		for n := 1; rest != ""; n++ {
			line, after, _ := strings.Cut(rest, "\n")
			if !yield(n, strings.Split(line, ";")) {
				return
			}
			rest = after
		}
	}
}

// Line prints the line that begins with head and goes on with numbers.
func Line(head string, numbers ...int) string {
	var b strings.Builder
	b.WriteString(head)
	for _, n := range numbers {
		b.WriteByte(';')
		b.WriteString(strconv.Itoa(n))
	}
	b.WriteByte('\n')
	return b.String()
}
