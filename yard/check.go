package yard

import (
	"sobreiro/api"
	"sobreiro/terms"
)

// CheckYard returns the first error of a yard.
func CheckYard(y api.Yard) api.Errno {
	if !isRest(y.Before) || !isRest(y.After) {
		return api.ErrValue
	}
	if len(y.Deeds) > api.MaxDeeds {
		return api.ErrCount
	}
	earliest := 0
	for _, d := range y.Deeds {
		if e := checkDeed(d, earliest); e != api.OK {
			return e
		}
		earliest = d.Day
	}
	return api.OK
}

func isRest(days int) bool { return terms.Within(days, 0, api.MaxResting) }

// checkDeed returns the first error of a deed that is not made before a day.
func checkDeed(d api.Deed, earliest int) api.Errno {
	f, found := formOf(d.Kind)
	switch {
	case !found || !terms.Within(d.Day, 0, api.MaxYardDay):
		return api.ErrValue
	case d.Day < earliest:
		return api.ErrOrder
	case !terms.IsCode(d.Stack) || f.other && !terms.IsCode(d.Other):
		return api.ErrCode
	case !f.other && d.Other != "" || !f.hasBounds(d):
		return api.ErrValue
	}
	return api.OK
}

// hasBounds says whether a deed has just the bounds that its form uses, in their ranges.
func (f form) hasBounds(d api.Deed) bool {
	for i, b := range [...]api.Bounds{d.A, d.B} {
		if i >= len(f.most) {
			if b != (api.Bounds{}) {
				return false
			}
		} else if !terms.AreBounds(b, 0, f.most[i]) {
			return false
		}
	}
	return true
}

// checkFirst returns the first error of a yard and a number of its first deeds.
func checkFirst(y api.Yard, n int) api.Errno {
	if e := CheckYard(y); e != api.OK {
		return e
	}
	if !terms.Within(n, 0, len(y.Deeds)) {
		return api.ErrValue
	}
	return api.OK
}
