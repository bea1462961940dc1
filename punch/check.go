package punch

import (
	"sobreiro/api"
	"sobreiro/terms"
)

// Check returns the first error of a lath.
func Check(l api.Lath) api.Errno {
	if !terms.Within(l.Length, 1, api.MaxLath) || !terms.Within(l.Width, 1, api.MaxPunch) || !terms.Within(l.Gap, 0, api.MaxGap) {
		return api.ErrValue
	}
	if !terms.Within(len(l.Prices), 1, api.MaxSorts) {
		return api.ErrCount
	}
	if e := checkPrices(l.Prices); e != api.OK {
		return e
	}
	if len(l.Flaws) > api.MaxFlaws {
		return api.ErrCount
	}
	return checkFlaws(l)
}

func checkPrices(prices []int) api.Errno {
	last := api.MaxPaid
	for _, price := range prices {
		if !terms.Within(price, 0, api.MaxPaid) {
			return api.ErrValue
		}
		if price > last {
			return api.ErrOrder
		}
		last = price
	}
	return api.OK
}

func checkFlaws(l api.Lath) api.Errno {
	for _, f := range l.Flaws {
		if !terms.AreBounds(f.From, 0, l.Length) || !terms.AreBounds(f.To, 0, l.Length) || !terms.Within(f.Grade, 1, len(l.Prices)-1) {
			return api.ErrValue
		}
		if f.From.Max >= f.To.Min {
			return api.ErrOrder
		}
	}
	return api.OK
}

// checkBoth returns the first error of a lath and of a plan for it.
func checkBoth(l api.Lath, plan []int) api.Errno {
	if e := Check(l); e != api.OK {
		return e
	}
	for i, at := range plan {
		if e := checkPosition(l, plan[:i], at, l.Width); e != api.OK {
			return e
		}
	}
	return api.OK
}

// checkDiscs returns the first error of discs that lie beside the corks of a plan.
func checkDiscs(l api.Lath, plan, discs []int, width int) api.Errno {
	for i, at := range discs {
		if e := checkPosition(l, discs[:i], at, width); e != api.OK {
			return e
		}
		if !hasRoom(l, plan, piece{at, width}) {
			return api.ErrRoom
		}
	}
	return api.OK
}

// checkPosition returns the error of the position of a piece after those of others that are as wide.
func checkPosition(l api.Lath, earlier []int, at, width int) api.Errno {
	if !terms.Within(at, 0, l.Length-width) {
		return api.ErrValue
	}
	if n := len(earlier); n > 0 && at < earlier[n-1]+width+l.Gap {
		return api.ErrOrder
	}
	return api.OK
}
