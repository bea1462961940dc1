package taint

import (
	"slices"

	"sobreiro/api"
	"sobreiro/terms"
)

// Check returns the first error of a lot.
func Check(l api.Lot) api.Errno {
	if len(l.Planks) > api.MaxPlanks {
		return api.ErrCount
	}
	if e := checkPlanks(l.Planks); e != api.OK {
		return e
	}
	if len(l.Corks) > api.MaxTested {
		return api.ErrCount
	}
	for _, plank := range l.Corks {
		if !isIndex(plank, len(l.Planks)) {
			return api.ErrMissing
		}
	}
	if !terms.Within(l.Most, 0, api.MaxTested) {
		return api.ErrValue
	}
	if len(l.Pools) > api.MaxPools {
		return api.ErrCount
	}
	return checkPools(l.Pools, len(l.Corks))
}

func checkPlanks(planks []string) api.Errno {
	for i, code := range planks {
		if !terms.IsCode(code) {
			return api.ErrCode
		}
		if slices.Contains(planks[:i], code) {
			return api.ErrRepeat
		}
	}
	return api.OK
}

// checkPools returns the first error of pools of so many corks.
func checkPools(pools []api.Pool, corks int) api.Errno {
	for _, p := range pools {
		if e := checkPool(p, corks); e != api.OK {
			return e
		}
	}
	return api.OK
}

func checkPool(p api.Pool, corks int) api.Errno {
	for i, cork := range p.Corks {
		if !isIndex(cork, corks) {
			return api.ErrMissing
		}
		if i > 0 && cork <= p.Corks[i-1] {
			return api.ErrOrder
		}
	}
	if _, isKnown := outcomeOf(p.Result); !isKnown || !terms.Within(p.Need, 1, api.MaxTested) {
		return api.ErrValue
	}
	return api.OK
}

// checkNext returns the first error of a lot and of the pools of which one is to be tested next.
func checkNext(l api.Lot, pools []api.Pool) api.Errno {
	if e := Check(l); e != api.OK {
		return e
	}
	if !terms.Within(len(pools), 1, api.MaxPools) {
		return api.ErrCount
	}
	return checkPools(pools, len(l.Corks))
}

// isIndex says whether a number is the index of one of several.
func isIndex(n, many int) bool { return terms.Within(n, 0, many-1) }
