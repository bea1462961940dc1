package ring

import (
	"slices"

	"sobreiro/api"
)

// aging is the factors by which rings grow, and how many rings have grown before the first year.
type aging struct {
	factors []int
	rings   int
}

// factor returns the factor of a year's ring, in thousandths.
func (a aging) factor(year int) int {
	return a.factors[min(a.rings+year, len(a.factors)-1)]
}

// growth is what grows on a site from a first year on.
type growth struct {
	aging
	grow [3]api.Bounds
}

// whole is a factor of one, in thousandths.
const whole = 1000

func growthOf(s api.Site, rings int) growth {
	return growth{aging: aging{factors: s.Age, rings: rings}, grow: s.Grow}
}

// least returns the least thickness of a year's ring if the year is of a kind.
func (g growth) least(year int, kind api.Rain) int { return g.grow[kind].Min * g.factor(year) / whole }

// most returns the greatest thickness of a year's ring if the year is of a kind.
func (g growth) most(year int, kind api.Rain) int { return g.grow[kind].Max * g.factor(year) / whole }

// canBe says whether a year's ring can have a thickness within measured bounds if the year is of a kind.
func (g growth) canBe(year int, kind api.Rain, measured api.Bounds) bool {
	return g.least(year, kind) <= measured.Max && measured.Min <= g.most(year, kind)
}

// narrow returns a climate whose years, from one on, have only the kinds in which the rings of the growth can be what was measured.
func (g growth) narrow(c api.Climate, from int, measured []api.Bounds) api.Climate {
	c.Years = slices.Clone(c.Years)
	for i, m := range measured {
		kinds := &c.Years[from+i]
		for k, possible := range kinds {
			kinds[k] = possible && g.canBe(i, api.Rain(k), m)
		}
	}
	return c
}
