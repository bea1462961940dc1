package press

import (
	"sobreiro/api"
	"sobreiro/terms"
)

// whole is a thousand thousandths.
const whole = 1000

// CheckPress returns the first error of a press.
func CheckPress(p api.Press) api.Errno {
	if !terms.Within(p.Jaw, 1, api.MaxWidth) || !terms.Within(p.Crush, 1, whole) || !terms.Within(p.Grip, 0, api.MaxWidth) || !terms.Within(p.Limit, 0, api.MaxOxygen) {
		return api.ErrValue
	}
	if !terms.Within(len(p.Steps), 1, api.MaxSteps) {
		return api.ErrCount
	}
	for i, s := range p.Steps {
		if !terms.Within(s.From, 0, api.MaxDensity) || !terms.AreBounds(s.Springs, 0, whole) || !terms.AreBounds(s.Breathes, 0, api.MaxOxygen) {
			return api.ErrValue
		}
		if i == 0 && s.From != 0 || i > 0 && s.From <= p.Steps[i-1].From {
			return api.ErrOrder
		}
	}
	return api.OK
}

// CheckCork returns the error of a cork.
func CheckCork(c api.Cork) api.Errno {
	if !terms.AreBounds(c.Width, 1, api.MaxWidth) || !terms.AreBounds(c.Length, 1, api.MaxLength) || !terms.AreBounds(c.Density, 0, api.MaxDensity) {
		return api.ErrValue
	}
	if c.Width.Max-c.Width.Min > api.MaxSpread {
		return api.ErrValue
	}
	return api.OK
}

// checkBoth returns the first error of a press and of a cork for it.
func checkBoth(p api.Press, c api.Cork) api.Errno {
	if e := CheckPress(p); e != api.OK {
		return e
	}
	return CheckCork(c)
}

// checkText returns the first error of a press and of the corks of its text.
func checkText(p api.Press, corks []api.Cork) api.Errno {
	if e := CheckPress(p); e != api.OK {
		return e
	}
	if len(corks) > api.MaxCorks {
		return api.ErrCount
	}
	for _, c := range corks {
		if e := CheckCork(c); e != api.OK {
			return e
		}
	}
	return api.OK
}

func checkRecipe(r api.Recipe) api.Errno {
	if !terms.Within(r.Parts, 1, api.MaxParts) || !terms.AreBounds(r.Density, 0, api.MaxDensity) || !terms.Within(r.Fine, 0, whole) {
		return api.ErrValue
	}
	if len(r.Granules) > api.MaxGranules {
		return api.ErrCount
	}
	for _, g := range r.Granules {
		if !terms.Within(g.Density, 0, api.MaxDensity) || !terms.Within(g.Price, 0, api.MaxPartPrice) || !terms.Within(g.Stock, 0, api.MaxParts) {
			return api.ErrValue
		}
	}
	return api.OK
}

func checkAssembly(a api.Assembly) api.Errno {
	for _, b := range [...]api.Bounds{a.Body, a.Disc, a.Glue, a.Target} {
		if !terms.AreBounds(b, 0, api.MaxLength) {
			return api.ErrValue
		}
	}
	if !terms.Within(a.Discs, 0, api.MaxDiscs) {
		return api.ErrValue
	}
	return api.OK
}
