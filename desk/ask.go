package desk

import (
	"strings"

	"sobreiro/api"
	"sobreiro/terms"
	"sobreiro/tree"
)

// Words of questions, which most answers begin with, too.
const (
	wordMay    = "may"
	wordStack  = "stack"
	wordFrom   = "from"
	wordEarned = "earned"
	wordShares = "shares"
	wordFault  = "fault"
)

// Ask answers a question about what is there after the entries that were made.
func Ask(w api.Works, question string) (string, api.Errno) {
	if e := CheckWorks(w); e != api.OK {
		return "", e
	}
	q, isQuestion := questionOf(question)
	if !isQuestion {
		return "", api.ErrText
	}
	q.year, q.fault = replayed(w, len(w.Entries))
	return forms()[q.word].answer(q)
}

// question is a question, and what it is asked about.
type question struct {
	word    string
	codes   []string
	numbers []int
	year    *year
	fault   api.DeskFault
}

// form is what questions with a word are like: how many codes and numbers they have, and their answer.
type form struct {
	codes, numbers int
	answer         func(question) (string, api.Errno)
}

func forms() map[string]form {
	return map[string]form{
		wordMay:    {1, 2, question.may},
		wordStack:  {1, 0, question.stack},
		wordFrom:   {1, 0, question.from},
		wordEarned: {0, 0, question.earned},
		wordShares: {0, 0, question.shares},
		wordFault:  {0, 0, question.first},
	}
}

// questionOf returns the question of a line, if it has a form.
func questionOf(line string) (q question, ok bool) {
	fields := strings.Split(line, ";")
	f, isForm := forms()[fields[0]]
	if !isForm || len(fields) != 1+f.codes+f.numbers || strings.Contains(line, "\n") {
		return question{}, false
	}
	numbers, ok := terms.Numbers(fields[1+f.codes:])
	return question{word: fields[0], codes: fields[1 : 1+f.codes], numbers: numbers}, ok
}

// answer returns the line that begins with head and goes on with numbers.
func answer(head string, numbers ...int) (string, api.Errno) {
	return strings.TrimSuffix(terms.Line(head, numbers...), "\n"), api.OK
}

func (q question) may() (string, api.Errno) {
	forest := q.year.forest
	v, rule, e := tree.May(forest, findTree(forest, q.codes[0]), q.numbers[0], q.numbers[1])
	switch {
	case e != api.OK: // also if there is no such tree
		return "", e
	case v == api.VdAlways:
		return answer("always")
	case v == api.VdNever:
		return answer("never", int(rule))
	default:
		return answer("unknown", int(rule))
	}
}

func (q question) stack() (string, api.Errno) {
	s, found := q.year.findStack(q.codes[0])
	if !found {
		return "", api.ErrMissing
	}
	return answer(wordStack, s.Dry.Min, s.Dry.Max, s.Water.Min, s.Water.Max)
}

func (q question) from() (string, api.Errno) {
	s, found := q.year.findStack(q.codes[0])
	if !found {
		return "", api.ErrMissing
	}
	line := wordFrom
	for _, entry := range s.From {
		line += ";" + q.year.works.Entries[entry].Tree
	}
	return line, api.OK
}

func (q question) earned() (string, api.Errno) {
	b := q.year.earned()
	return answer(wordEarned, b.Min, b.Max)
}

func (q question) shares() (string, api.Errno) {
	s, e := Settle(q.year.works)
	if e != api.OK {
		return "", e
	}
	return answer(wordShares, append([]int{s.Wages, s.Commons, s.Left}, s.Shares...)...)
}

// first tells the first fault.
func (q question) first() (string, api.Errno) {
	if q.fault.Kind == api.DkNone {
		return answer("none")
	}
	return answer(wordFault, q.year.made, int(q.fault.Kind), q.fault.Detail)
}
