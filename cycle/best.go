package cycle

import (
	"iter"
	"slices"

	"sobreiro/api"
)

// bestOf returns the first of those of several that have the greatest value, or a zero value if there is none.
func bestOf[T any](several iter.Seq[T], value func(T) int) (best T) {
	found := false
	for x := range several {
		if !found || value(x) > value(best) {
			best, found = x, true
		}
	}
	return best
}

// choice is the stands that are stripped in a year, and the value of this year and of the best ones that can come after it.
type choice struct {
	stripped set
	value    int
	possible bool // there is a plan without a fault from here on
}

// search looks for the plan without a fault that has the greatest value.
type search struct {
	*woods
	end  int                                // the value of the end
	join func(h api.Harvest, after int) int // the value of a year and of what comes after it
	best map[state]choice                   // the best choices that are known
}

func searchOf(s api.Scheme, end int, join func(h api.Harvest, after int) int) search {
	return search{woodsOf(s), end, join, map[state]choice{}}
}

// from returns the best choice in a state. Of several it is the least one, so that the plan is, too.
func (s search) from(at state) choice {
	best, known := s.best[at]
	if !known {
		best = bestOf(s.choices(at), func(c choice) int { return c.value })
		s.best[at] = best
	}
	return best
}

// choices yields the possible choices in a state, the least one first.
func (s search) choices(at state) iter.Seq[choice] {
	return func(yield func(choice) bool) {
		many := len(s.groves)
		if at.year == s.Term {
			many = 0 // at the end nothing is stripped
		}
		for stripped := range sets(many) {
			x := s.season(at, stripped)
			if x.fault() != (api.Fault{}) {
				continue
			}
			if c := s.choice(x); c.possible && !yield(c) {
				return
			}
		}
	}
}

// choice returns the choice of a season without a fault.
func (s search) choice(x season) choice {
	if x.isEnd() {
		return choice{value: s.end, possible: true}
	}
	after := s.from(x.next())
	return choice{x.stripped, s.join(x.harvest, after.value), after.possible}
}

// plan returns the best plan. There is one if the first choice is possible.
func (s search) plan() (plan [][]int) {
	at := s.start()
	for range s.Term {
		c := s.from(at)
		plan = append(plan, c.stripped.list())
		at = s.season(at, c.stripped).next()
	}
	return plan
}

// strips are years in which a stand is stripped, and what this is worth.
type strips struct {
	years []int
	worth int
}

// alone yields all lists of years in which a stand may be stripped, the least one first.
func (w *woods) alone(g grove) iter.Seq[strips] {
	return func(yield func(strips) bool) {
		var goOn func(so strips, from, time int) bool
		goOn = func(so strips, from, time int) bool {
			if !yield(so) {
				return false
			}
			for year := from; year < w.Term; year++ {
				now := time + year - from
				if now < w.Rest {
					continue
				}
				more := strips{append(slices.Clone(so.years), year), so.worth + w.worth(g.gives(year, now), g.days)}
				if !goOn(more, year+1, 1) {
					return false
				}
			}
			return true
		}
		goOn(strips{}, 0, g.since)
	}
}
