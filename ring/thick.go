package ring

import (
	"iter"
	"maps"
	"slices"

	"sobreiro/api"
)

// thick returns the least and the greatest thickness after each year, in all courses.
func (l courses) thick(g growth, from api.Bounds) []api.Bounds {
	low := l.sums(g, growth.least, rising)
	high := l.sums(g, growth.most, falling)
	after := make([]api.Bounds, len(low))
	for year := range after {
		after[year] = api.Bounds{Min: from.Min + low[year], Max: from.Max + high[year]}
	}
	return after
}

// sums returns, for each year, the sum of the rings up to it that comes first in an order, where end tells how thick a ring is.
func (l courses) sums(g growth, end func(g growth, year int, kind api.Rain) int, order func(a, b int) int) []int {
	sums := make([]int, len(l.climate.Years))
	best := map[state]int{start(): 0}
	for year := range sums {
		several := map[state][]int{}
		for from, sum := range best {
			for to := range l.next(year, from) {
				several[to] = append(several[to], sum+end(g, year, to.kind))
			}
		}
		best = map[state]int{}
		for to, s := range several {
			best[to] = leastOf(slices.Values(s), order)
		}
		sums[year] = leastOf(maps.Values(best), order)
	}
	return sums
}

// worst returns the first course with the least sum of the rings' least thicknesses, and this sum.
func (l courses) worst(g growth) ([]api.Rain, int) {
	rest := l.rests(g)
	thinnest := func(year int, from, to state) bool {
		return rest[year][from] == g.least(year, to.kind)+rest[year+1][to]
	}
	course, _ := firstOf(l.each(thinnest))
	return course, rest[0][start()]
}

// rests returns, for each number of years from 0 and each state after them, the least sum of the least rings that are still to grow.
func (l courses) rests(g growth) []map[state]int {
	years := len(l.climate.Years)
	rest := make([]map[state]int, years+1)
	for year, states := range slices.Backward(l.after) {
		rest[year] = map[state]int{}
		for s := range states {
			if year < years {
				rest[year][s] = leastOf(l.restsOver(g, year, s, rest[year+1]), rising)
			}
		}
	}
	return rest
}

// restsOver yields, for each state that a year can bring, the least sum of the least rings from this year on.
func (l courses) restsOver(g growth, year int, from state, rest map[state]int) iter.Seq[int] {
	return func(yield func(int) bool) {
		for to := range l.next(year, from) {
			if !yield(g.least(year, to.kind) + rest[to]) {
				return
			}
		}
	}
}
