package ring_test

import (
	"slices"
	"testing"

	"sobreiro/api"
	"sobreiro/ring"
)

// P2.1: what is within its range, at its ends too, is valid.
func TestChecksAccept(t *testing.T) {
	for i, s := range []api.Site{
		exampleSite(),
		{Age: []int{0}},
		{Age: make([]int, 20)},
		{Age: []int{2000, 0, 2000}, Grow: [3]api.Bounds{bounds(0, 2000), bounds(2000, 2000), bounds(7, 7)}},
	} {
		if e := ring.CheckSite(s); e != api.OK {
			t.Error(i, e)
		}
	}
	for i, c := range []api.Climate{
		exampleClimate(),
		{},
		{Years: make([]api.Kinds, 30), Dry: bounds(30, 30)},
		{Years: []api.Kinds{}, Dry: bounds(0, 30)},
	} {
		if e := ring.CheckClimate(c); e != api.OK {
			t.Error(i, e)
		}
	}
}

// call is what the functions of a site and a climate are asked with.
type call struct {
	s             api.Site
	c             api.Climate
	from          api.Bounds
	rings, target int
	measured      []api.Bounds
}

func exampleCall() call {
	return call{s: exampleSite(), c: exampleClimate(), measured: rings(bounds(0, 9000))}
}

// flaw makes a call invalid.
type flaw func(x *call)

// check is what the functions look at in one go: flaws that it finds, and its error.
type check struct {
	e     api.Errno
	flaws []flaw
}

func siteChecks() []check {
	count := check{api.ErrCount, []flaw{
		func(x *call) { x.s.Age = nil },
		func(x *call) { x.s.Age = []int{} },
		func(x *call) { x.s.Age = make([]int, 21) },
		func(x *call) { x.s.Age = slices.Repeat([]int{-1}, 21) },
	}}
	value := check{e: api.ErrValue}
	for _, n := range outside(0, api.MaxAging) {
		value.flaws = append(value.flaws,
			func(x *call) { x.s.Age = []int{n} },
			func(x *call) { x.s.Age = []int{5, 6, n} })
	}
	for k := range 3 {
		for _, b := range wrongBounds(api.MaxRing) {
			value.flaws = append(value.flaws, func(x *call) { x.s.Grow[k] = b })
		}
	}
	return []check{count, value}
}

func climateChecks() []check {
	count := check{api.ErrCount, []flaw{
		func(x *call) { x.c.Years = make([]api.Kinds, 31) },
		func(x *call) { x.c.Years = make([]api.Kinds, 100000) },
	}}
	value := check{e: api.ErrValue}
	for _, b := range wrongBounds(api.MaxSeasons) {
		value.flaws = append(value.flaws, func(x *call) { x.c.Dry = b })
	}
	return []check{count, value}
}

func ringsCheck() check {
	value := check{e: api.ErrValue}
	for _, n := range outside(0, api.MaxSeasons) {
		value.flaws = append(value.flaws, func(x *call) { x.rings = n })
	}
	return value
}

func startCheck() check {
	value := ringsCheck()
	for _, b := range wrongBounds(api.MaxThick) {
		value.flaws = append(value.flaws, func(x *call) { x.from = b })
	}
	return value
}

func targetCheck() check {
	value := check{e: api.ErrValue}
	for _, n := range outside(0, api.MaxThick) {
		value.flaws = append(value.flaws, func(x *call) { x.target = n })
	}
	return value
}

func measuredChecks() []check {
	count := check{api.ErrCount, []flaw{
		// More than the years even where these are too many.
		func(x *call) { x.measured = slices.Repeat(rings(bounds(0, 9000)), len(x.c.Years)+1) },
		func(x *call) { x.measured = slices.Repeat(rings(bounds(2, 1)), len(x.c.Years)+1) },
	}}
	value := check{e: api.ErrValue}
	for _, b := range wrongBounds(api.MaxThick) {
		value.flaws = append(value.flaws,
			func(x *call) { x.measured = rings(b) },
			func(x *call) { x.measured = rings(bounds(0, 9000), b) })
	}
	return []check{count, value}
}

func againstCheck() check {
	return check{api.ErrAgainst, []flaw{
		func(x *call) { x.c.Next = [3][3]bool{} },
		func(x *call) { x.c.Years = slices.Concat(x.c.Years, years("")) },
	}}
}

// ordered checks a function: each flaw has its error, and of two flaws the one of the earlier check decides.
func ordered(t *testing.T, name string, checks []check, ask func(x call) (zero bool, e api.Errno)) {
	t.Helper()
	if _, e := ask(exampleCall()); e != api.OK {
		t.Error(name, "without a flaw", e)
	}
	for i, first := range checks {
		for n, a := range first.flaws {
			x := exampleCall()
			a(&x)
			if zero, e := ask(x); !zero || e != first.e {
				t.Error(name, i, n, zero, e)
			}
			for j, later := range checks[i+1:] {
				for m, b := range later.flaws {
					x := exampleCall()
					b(&x)
					a(&x)
					if zero, e := ask(x); !zero || e != first.e {
						t.Error(name, i, n, "before", i+1+j, m, zero, e)
					}
				}
			}
		}
	}
}

// P2.1 to P2.4, P0.1: the errors of all functions, in their order, and zero values with them.
func TestErrors(t *testing.T) {
	site, climate, measured, against := siteChecks(), climateChecks(), measuredChecks(), againstCheck()
	both := slices.Concat(site, climate)
	ordered(t, "CheckSite", site, func(x call) (bool, api.Errno) { return true, ring.CheckSite(x.s) })
	ordered(t, "CheckClimate", climate, func(x call) (bool, api.Errno) { return true, ring.CheckClimate(x.c) })
	ordered(t, "Kinds", append(climate[:2:2], against), func(x call) (bool, api.Errno) {
		l, n, e := ring.Kinds(x.c)
		return l == nil && (n == 0 || e == api.ErrAgainst), e
	})
	ordered(t, "Thick", append(both[:4:4], startCheck(), against), func(x call) (bool, api.Errno) {
		l, e := ring.Thick(x.s, x.c, x.from, x.rings)
		return l == nil, e
	})
	ordered(t, "Worst", append(both[:4:4], ringsCheck(), against), func(x call) (bool, api.Errno) {
		l, n, e := ring.Worst(x.s, x.c, x.rings)
		return l == nil && n == 0, e
	})
	ordered(t, "Reach", append(both[:4:4], startCheck(), targetCheck(), against), func(x call) (bool, api.Errno) {
		a, b, e := ring.Reach(x.s, x.c, x.from, x.rings, x.target)
		return a == 0 && b == 0, e
	})
	ordered(t, "Cut", slices.Concat(both, []check{ringsCheck()}, measured, []check{against}), func(x call) (bool, api.Errno) {
		o, n, e := ring.Cut(x.s, x.c, x.rings, x.measured)
		return sameClimate(o, api.Climate{}) && n == 0, e
	})
	none := check{api.ErrCount, []flaw{func(x *call) { x.measured = nil }, func(x *call) { x.measured = []api.Bounds{} }}}
	ordered(t, "Match", slices.Concat(both, []check{none}, measured), func(x call) (bool, api.Errno) {
		l, e := ring.Match(x.s, x.c, x.measured)
		return l == nil, e
	})
	ordered(t, "Print", both, func(x call) (bool, api.Errno) {
		s, e := ring.Print(x.s, x.c)
		return s == "", e
	})
}

// P2.4: the errors of classes, in their order.
func TestClassErrors(t *testing.T) {
	eleven := []int{1, 2, 3, 4, 5, 6, 7, 8, 9, 10, 11}
	for i, x := range []struct {
		limits []int
		thick  api.Bounds
		want   api.Errno
	}{
		{eleven, bounds(2, 1), api.ErrCount},
		{make([]int, 11), bounds(0, 0), api.ErrCount},
		{slices.Repeat([]int{-1}, 11), bounds(0, 0), api.ErrCount},
		{nil, bounds(-1, 0), api.ErrValue},
		{nil, bounds(1, 0), api.ErrValue},
		{nil, bounds(0, 200001), api.ErrValue},
		{[]int{2, 1}, bounds(1, 0), api.ErrValue},
		{[]int{-1}, bounds(0, 0), api.ErrValue},
		{[]int{200001}, bounds(0, 0), api.ErrValue},
		{[]int{2, 1, 200001}, bounds(0, 0), api.ErrValue},
		{[]int{2, 2}, bounds(0, 0), api.ErrOrder},
		{[]int{1, 3, 2}, bounds(0, 0), api.ErrOrder},
	} {
		if a, b, e := ring.Class(x.limits, x.thick); a != 0 || b != 0 || e != x.want {
			t.Error(i, a, b, e)
		}
	}
	for _, n := range outside(0, api.MaxThick) {
		if _, _, e := ring.Class([]int{n}, bounds(0, 0)); e != api.ErrValue {
			t.Error(n, e)
		}
	}
	for i, b := range wrongBounds(api.MaxThick) {
		if _, _, e := ring.Class(nil, b); e != api.ErrValue {
			t.Error(i, e)
		}
	}
}
