package taint

import (
	"iter"
	"slices"

	"sobreiro/api"
)

// casesOf returns all cases of a lot, or its error.
func casesOf(l api.Lot) ([]set, api.Errno) {
	if e := Check(l); e != api.OK {
		return nil, e
	}
	cases := casesWith(l, l.Pools)
	if len(cases) == 0 {
		return nil, api.ErrAgainst
	}
	return cases, api.OK
}

// casesWith returns the sets of at most Most corks that agree with some pools.
func casesWith(l api.Lot, pools []api.Pool) (cases []set) {
	var tests []test
	for _, p := range pools {
		tests = append(tests, testOf(p, p.Result))
	}
	for tainted := range subsets(len(l.Corks), l.Most) {
		if !slices.ContainsFunc(tests, func(t test) bool { return !t.agrees(tainted) }) {
			cases = append(cases, tainted)
		}
	}
	return cases
}

// suspect is what can be guilty.
type suspect interface {
	isGuilty(tainted set) bool
}

// cork is the index of a cork.
type cork int

// plank is the corks out of a plank.
type plank set

func (c cork) isGuilty(tainted set) bool { return tainted.has(int(c)) }

func (p plank) isGuilty(tainted set) bool { return tainted&set(p) != 0 }

func corksOf(l api.Lot) (corks []cork) {
	for i := range l.Corks {
		corks = append(corks, cork(i))
	}
	return corks
}

func planksOf(l api.Lot) []plank {
	planks := make([]plank, len(l.Planks))
	for i, from := range l.Corks {
		planks[from] |= 1 << i
	}
	return planks
}

// verdictsOf returns for each suspect whether it is guilty in all cases, or in none. There is at least one case.
func verdictsOf[S suspect](suspects []S, cases []set) (verdicts []api.Verdict) {
	for _, s := range suspects {
		guilty := 0
		for _, tainted := range cases {
			if s.isGuilty(tainted) {
				guilty++
			}
		}
		verdicts = append(verdicts, verdictOf(guilty, len(cases)))
	}
	return verdicts
}

// verdictOf returns the verdict of what is so in some of all cases.
func verdictOf(some, all int) api.Verdict {
	switch some {
	case 0:
		return api.VdNever
	case all:
		return api.VdAlways
	default:
		return api.VdUnknown
	}
}

// catchesOf yields the sets of planks of which each case that is not empty has a cork. The set of all planks is one.
func catchesOf(planks []plank, cases []set) iter.Seq[set] {
	return func(yield func(set) bool) {
		for chosen := range subsets(len(planks), len(planks)) {
			caught := joined(planks, chosen)
			escapes := func(tainted set) bool { return tainted != 0 && !caught.isGuilty(tainted) }
			if !slices.ContainsFunc(cases, escapes) && !yield(chosen) {
				return
			}
		}
	}
}

// joined returns the corks out of some planks.
func joined(planks []plank, chosen set) (all plank) {
	for i, p := range planks {
		if chosen.has(i) {
			all |= p
		}
	}
	return all
}
