// Package tree is layer 1, a forest book and the law of stripping: see shared/doc/01-tree.md.
package tree

import (
	"sort"

	"sobreiro/api"
)

// Girth returns the girth of a tree in a year.
func Girth(f api.Forest, tree, year int) (api.Bounds, api.Errno) {
	q, e := ask(f, tree, year, 1)
	if e != api.OK {
		return api.Bounds{}, e
	}
	return q.girth(), api.OK
}

// May says whether a tree may be stripped in a year up to a height, and the rule that decides it.
func May(f api.Forest, tree, year, height int) (api.Verdict, api.Rule, api.Errno) {
	q, e := ask(f, tree, year, height)
	if e != api.OK {
		return api.VdUnknown, api.TrNone, e
	}
	v, r := verdict(q)
	return v, r, api.OK
}

// Highest returns the greatest heights that are surely, and possibly, allowed.
func Highest(f api.Forest, tree, year int) (sure, possible int, e api.Errno) {
	q, e := ask(f, tree, year, 1)
	if e != api.OK {
		return 0, 0, e
	}
	return highest(q, isAlways), highest(q, isPossible), api.OK
}

// highest returns the greatest height whose verdict is good, or 0. Where a height is good each lower one is too, so that the first bad one tells it.
func highest(q question, good func(api.Verdict) bool) int {
	return sort.Search(api.MaxHeight, func(below int) bool {
		q.height = below + 1
		v, _ := verdict(q)
		return !good(v)
	})
}

// Next returns the first years in which a tree may surely, and possibly, be stripped.
func Next(f api.Forest, tree, from int) (sure, possible int, e api.Errno) {
	q, e := ask(f, tree, from, 1)
	if e != api.OK {
		return 0, 0, e
	}
	return next(q, isAlways), next(q, isPossible), api.OK
}

// next returns the first year, from the question's, whose verdict is good, or -1.
func next(q question, good func(api.Verdict) bool) int {
	year, found := firstOf(eachYear(api.Bounds{Min: q.year, Max: api.MaxYear}), func(y int) bool {
		q.year = y
		v, _ := verdict(q)
		return good(v)
	})
	if !found {
		return -1
	}
	return year
}

// First returns the first strip of a tree's history that surely broke a rule.
func First(f api.Forest, tree int) (strip int, rule api.Rule, e api.Errno) {
	q, e := ask(f, tree, 0, 1)
	if e != api.OK {
		return 0, api.TrNone, e
	}
	history := q.tree.Strips
	for i, s := range history {
		q.tree.Strips, q.year, q.height = history[:i], s.Year, s.Height
		if v, r := verdict(q); v == api.VdNever {
			return i, r, api.OK
		}
	}
	return -1, api.TrNone, api.OK
}

// Area returns the area of the bark that is taken.
func Area(f api.Forest, tree, year, height int) (api.Bounds, api.Errno) {
	q, e := ask(f, tree, year, height)
	if e != api.OK {
		return api.Bounds{}, e
	}
	if v, _ := verdict(q); v == api.VdNever {
		return api.Bounds{}, api.ErrAgainst
	}
	const square = 100 // square millimetres of a square centimetre
	g := q.girth()
	return api.Bounds{Min: g.Min * height / square, Max: (g.Max*height + square - 1) / square}, api.OK
}
