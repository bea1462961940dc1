package tree

import (
	"slices"

	"sobreiro/api"
)

// rule is a rule of stripping and how it is judged: VdAlways means surely kept, VdNever surely broken, VdUnknown neither.
type rule struct {
	name  api.Rule
	judge func(question) api.Verdict
}

// rules returns the rules in the order in which they are named.
func rules() []rule {
	return []rule{
		{api.TrDead, judgeDead},
		{api.TrAge, judgeAge},
		{api.TrRest, judgeRest},
		{api.TrHeal, judgeHeal},
		{api.TrGirth, judgeGirth},
		{api.TrHeight, judgeHeight},
	}
}

// verdict returns the verdict of all rules together, and the rule that decides it.
func verdict(q question) (api.Verdict, api.Rule) {
	table := rules()
	broken := func(r rule) bool { return r.judge(q) == api.VdNever }
	doubtful := func(r rule) bool { return r.judge(q) == api.VdUnknown }
	if r, found := firstOf(slices.Values(table), broken); found {
		return api.VdNever, r.name
	}
	if r, found := firstOf(slices.Values(table), doubtful); found {
		return api.VdUnknown, r.name
	}
	return api.VdAlways, api.TrNone
}

func isAlways(v api.Verdict) bool { return v == api.VdAlways }

func isPossible(v api.Verdict) bool { return v != api.VdNever }

// judged returns the verdict of a rule that is kept, or not, in the worst case and in the best case that the bounds allow.
func judged(worst, best bool) api.Verdict {
	switch {
	case worst:
		return api.VdAlways
	case best:
		return api.VdUnknown
	default:
		return api.VdNever
	}
}

// known returns the verdict of a rule that no bounds have a part in.
func known(kept bool) api.Verdict { return judged(kept, kept) }

func judgeDead(q question) api.Verdict {
	return known(q.tree.Dead == lives || q.year < q.tree.Dead)
}

func judgeAge(q question) api.Verdict {
	youngest, oldest := q.year-q.tree.Born.Max, q.year-q.tree.Born.Min
	return judged(youngest >= q.law.Age, oldest >= q.law.Age)
}

func judgeRest(q question) api.Verdict {
	tooNear := func(s api.Strip) bool {
		return max(q.year-s.Year, s.Year-q.year) < q.law.Rest
	}
	return known(!slices.ContainsFunc(q.tree.Strips, tooNear))
}

func judgeHeal(q question) api.Verdict {
	fresh := func(w int) bool {
		since := q.year - w
		return 0 <= since && since < q.law.Heal
	}
	return known(!slices.ContainsFunc(q.tree.Wounds, fresh))
}

func judgeGirth(q question) api.Verdict {
	// The law asks for a girth only of a tree that was never stripped.
	if q.stripsBefore() > 0 {
		return api.VdAlways
	}
	g := q.girth()
	return judged(g.Min >= q.law.Girth, g.Max >= q.law.Girth)
}

func judgeHeight(q question) api.Verdict {
	factor := q.law.Factors[min(q.stripsBefore(), len(q.law.Factors)-1)]
	g := q.girth()
	// Factors are tenths: ten times the height is compared, so that nothing is rounded.
	return judged(10*q.height <= factor*g.Min, 10*q.height <= factor*g.Max)
}
