package ring

import (
	"slices"

	"sobreiro/api"
	"sobreiro/terms"
)

// CheckSite returns the first error of a site.
func CheckSite(s api.Site) api.Errno {
	if !terms.Within(len(s.Age), 1, api.MaxAges) {
		return api.ErrCount
	}
	for _, factor := range s.Age {
		if !terms.Within(factor, 0, api.MaxAging) {
			return api.ErrValue
		}
	}
	for _, b := range s.Grow {
		if !terms.AreBounds(b, 0, api.MaxRing) {
			return api.ErrValue
		}
	}
	return api.OK
}

// CheckClimate returns the first error of a climate.
func CheckClimate(c api.Climate) api.Errno {
	if len(c.Years) > api.MaxSeasons {
		return api.ErrCount
	}
	if !terms.AreBounds(c.Dry, 0, api.MaxSeasons) {
		return api.ErrValue
	}
	return api.OK
}

// checkBoth returns the first error of a site and a climate.
func checkBoth(s api.Site, c api.Climate) api.Errno {
	if e := CheckSite(s); e != api.OK {
		return e
	}
	return CheckClimate(c)
}

// checkRings returns the first error of a site, a climate and a number of rings.
func checkRings(s api.Site, c api.Climate, rings int) api.Errno {
	if e := checkBoth(s, c); e != api.OK {
		return e
	}
	if !terms.Within(rings, 0, api.MaxSeasons) {
		return api.ErrValue
	}
	return api.OK
}

// checkStart returns the first error of a site, a climate and a start.
func checkStart(s api.Site, c api.Climate, from api.Bounds, rings int) api.Errno {
	if e := checkRings(s, c, rings); e != api.OK {
		return e
	}
	if !areThick(from) {
		return api.ErrValue
	}
	return api.OK
}

// checkMeasured returns the first error of at least so many rings that are measured.
func checkMeasured(c api.Climate, measured []api.Bounds, least int) api.Errno {
	if !terms.Within(len(measured), least, len(c.Years)) {
		return api.ErrCount
	}
	for _, m := range measured {
		if !areThick(m) {
			return api.ErrValue
		}
	}
	return api.OK
}

func areThick(b api.Bounds) bool { return terms.AreBounds(b, 0, api.MaxThick) }

func isThick(n int) bool { return terms.Within(n, 0, api.MaxThick) }

// checkLimits returns the first error of limits of classes and a thickness.
func checkLimits(limits []int, thick api.Bounds) api.Errno {
	if len(limits) > api.MaxClasses {
		return api.ErrCount
	}
	isNot := func(n int) bool { return !isThick(n) }
	if !areThick(thick) || slices.ContainsFunc(limits, isNot) {
		return api.ErrValue
	}
	for i := 1; i < len(limits); i++ {
		if limits[i] <= limits[i-1] {
			return api.ErrOrder
		}
	}
	return api.OK
}
