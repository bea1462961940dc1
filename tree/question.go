package tree

import "sobreiro/api"

// lives is what a tree's Dead is while it lives.
const lives = -1

// question is whether a tree may be stripped in a year up to a height.
type question struct {
	law          api.Law
	tree         api.Tree
	year, height int
}

// ask returns the question that the arguments of a call put, or their first error.
func ask(f api.Forest, tree, year, height int) (question, api.Errno) {
	if e := CheckForest(f); e != api.OK {
		return question{}, e
	}
	if tree < 0 || tree >= len(f.Trees) {
		return question{}, api.ErrMissing
	}
	if !isYear(year) || !isHeight(height) {
		return question{}, api.ErrValue
	}
	return question{law: f.Law, tree: f.Trees[tree], year: year, height: height}, api.OK
}

// girth returns the girth in the question's year.
func (q question) girth() api.Bounds {
	t := q.tree
	d := q.year - t.Taped
	if d >= 0 {
		return api.Bounds{Min: t.Girth.Min + d*t.Grows.Min, Max: t.Girth.Max + d*t.Grows.Max}
	}
	// Looking back, the most growth leaves the least girth.
	return api.Bounds{Min: max(0, t.Girth.Min+d*t.Grows.Max), Max: max(0, t.Girth.Max+d*t.Grows.Min)}
}

// stripsBefore returns how many strips lie before the question's year.
func (q question) stripsBefore() int {
	n := 0
	for _, s := range q.tree.Strips {
		if s.Year < q.year {
			n++
		}
	}
	return n
}
