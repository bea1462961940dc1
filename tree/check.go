package tree

import (
	"slices"

	"sobreiro/api"
	"sobreiro/terms"
)

// CheckForest returns the first error of a forest.
func CheckForest(f api.Forest) api.Errno {
	if !isLaw(f.Law) {
		return api.ErrValue
	}
	if len(f.Trees) > api.MaxTrees {
		return api.ErrCount
	}
	for i, t := range f.Trees {
		if e := checkTree(t, f.Trees[:i]); e != api.OK {
			return e
		}
	}
	return api.OK
}

func isLaw(l api.Law) bool {
	for _, factor := range l.Factors {
		if !terms.Within(factor, 0, api.MaxMultiple) {
			return false
		}
	}
	return isYear(l.Age) && terms.Within(l.Rest, 1, api.MaxRest) &&
		terms.Within(l.Girth, 0, api.MaxGirth) && terms.Within(l.Heal, 0, api.MaxRest)
}

func isYear(n int) bool { return terms.Within(n, 0, api.MaxYear) }

func isHeight(n int) bool { return terms.Within(n, 1, api.MaxHeight) }

// checkTree returns the first error of a tree that stands after the earlier ones.
func checkTree(t api.Tree, earlier []api.Tree) api.Errno {
	if !terms.IsCode(t.Code) {
		return api.ErrCode
	}
	if slices.ContainsFunc(earlier, func(o api.Tree) bool { return o.Code == t.Code }) {
		return api.ErrRepeat
	}
	if !isMeasured(t) {
		return api.ErrValue
	}
	if e := checkStrips(t.Strips); e != api.OK {
		return e
	}
	return checkWounds(t.Wounds)
}

// isMeasured says whether a tree's Born, Taped, Girth, Grows and Dead are in their ranges.
func isMeasured(t api.Tree) bool {
	return terms.AreBounds(t.Born, 0, api.MaxYear) && isYear(t.Taped) &&
		terms.AreBounds(t.Girth, 0, api.MaxGirth) && terms.AreBounds(t.Grows, 0, api.MaxGrowth) &&
		(isYear(t.Dead) || t.Dead == lives)
}

func checkStrips(strips []api.Strip) api.Errno {
	if len(strips) > api.MaxStrips {
		return api.ErrCount
	}
	last := -1
	for _, s := range strips {
		if !isYear(s.Year) || !isHeight(s.Height) {
			return api.ErrValue
		}
		if s.Year <= last {
			return api.ErrOrder
		}
		last = s.Year
	}
	return api.OK
}

func checkWounds(wounds []int) api.Errno {
	if len(wounds) > api.MaxWounds {
		return api.ErrCount
	}
	last := -1
	for _, w := range wounds {
		if !isYear(w) {
			return api.ErrValue
		}
		if w <= last {
			return api.ErrOrder
		}
		last = w
	}
	return api.OK
}
