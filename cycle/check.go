package cycle

import (
	"slices"

	"sobreiro/api"
	"sobreiro/terms"
)

// CheckScheme returns the first error of a scheme.
func CheckScheme(s api.Scheme) api.Errno {
	if !isReckoned(s) {
		return api.ErrValue
	}
	if len(s.Stands) > api.MaxStands {
		return api.ErrCount
	}
	for i, t := range s.Stands {
		if e := checkStand(t, s.Stands[:i]); e != api.OK {
			return e
		}
	}
	return api.OK
}

// isReckoned says whether a scheme's Rest, Term, Floor, Teams, Price, Wage and Left are in their ranges.
func isReckoned(s api.Scheme) bool {
	return terms.Within(s.Rest, 1, api.MaxRest) && terms.Within(s.Term, 1, api.MaxTerm) &&
		isFloor(s.Floor) && terms.Within(s.Teams, 0, api.MaxTeams) &&
		terms.Within(s.Price, 0, api.MaxPrice) && terms.Within(s.Wage, 0, api.MaxWage) && isFloor(s.Left)
}

func isFloor(n int) bool { return terms.Within(n, 0, api.MaxFloor) }

// checkStand returns the first error of a stand that stands after the earlier ones.
func checkStand(t api.Stand, earlier []api.Stand) api.Errno {
	switch {
	case !terms.IsCode(t.Code):
		return api.ErrCode
	case findStand(earlier, t.Code) != noStand:
		return api.ErrRepeat
	case !isCounted(t):
		return api.ErrValue
	case !terms.Within(len(t.Yields), 1, api.MaxYields):
		return api.ErrCount
	case slices.ContainsFunc(t.Yields, func(b api.Bounds) bool { return !terms.AreBounds(b, 0, api.MaxBark) }):
		return api.ErrValue
	}
	return api.OK
}

// isCounted says whether a stand's Trees, Dies, Since and Days are in their ranges.
func isCounted(t api.Stand) bool {
	return terms.Within(t.Trees, 0, api.MaxWood) && terms.Within(t.Dies, 0, whole) &&
		terms.Within(t.Since, 0, api.MaxSince) && terms.Within(t.Days, 0, api.MaxDays)
}

// noStand is the index where there is no stand.
const noStand = -1

// findStand returns the index of the stand with a code, or noStand.
func findStand(stands []api.Stand, code string) int {
	return slices.IndexFunc(stands, func(t api.Stand) bool { return t.Code == code })
}

// checkPlan returns the first error of a scheme and a plan.
func checkPlan(s api.Scheme, plan [][]int) api.Errno {
	if e := CheckScheme(s); e != api.OK {
		return e
	}
	if len(plan) != s.Term {
		return api.ErrCount
	}
	for _, stripped := range plan {
		if e := checkYear(s, stripped); e != api.OK {
			return e
		}
	}
	return api.OK
}

// checkYear returns the first error of a year of a plan.
func checkYear(s api.Scheme, stripped []int) api.Errno {
	last := noStand
	for _, stand := range stripped {
		if !isStand(s, stand) {
			return api.ErrMissing
		}
		if stand <= last {
			return api.ErrOrder
		}
		last = stand
	}
	return api.OK
}

func isStand(s api.Scheme, stand int) bool { return terms.Within(stand, 0, len(s.Stands)-1) }
