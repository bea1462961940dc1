package ring

import (
	"iter"
	"maps"
	"slices"

	"sobreiro/api"
)

// state is what a course has come to after a year. What it can become depends on nothing else, so that courses need not be counted out.
type state struct {
	kind api.Rain // the kind of the year
	dry  int      // how many years were dry, this one included
}

// noKind is the kind of what lies before the first year: any year can come after it.
const noKind api.Rain = -1

// start is the state before the first year.
func start() state { return state{kind: noKind} }

// courses are all courses of a climate.
type courses struct {
	climate api.Climate
	after   []map[state]bool // after n years, for each n from 0, the states that some course has
	stuck   int              // the first year up to which no kinds can be chosen, or the number of years
}

// coursesOf finds the courses of a climate.
func coursesOf(c api.Climate) courses {
	after := []map[state]bool{{start(): true}}
	for year := range c.Years {
		next := map[state]bool{}
		for from := range after[year] {
			for to := range steps(c, year, from) {
				next[to] = true
			}
		}
		after = append(after, next)
	}
	l := courses{climate: c, after: after, stuck: stuckYear(after)}
	l.dropEnds()
	return l
}

// stuckYear returns the first year after which there is no state, or the number of years.
func stuckYear(after []map[state]bool) int {
	none := func(states map[state]bool) bool { return len(states) == 0 }
	if n := slices.IndexFunc(after, none); n > 0 {
		return n - 1
	}
	return len(after) - 1
}

// steps yields the states that a year can bring after a state, by their kinds.
func steps(c api.Climate, year int, from state) iter.Seq[state] {
	return func(yield func(state) bool) {
		for k, possible := range c.Years[year] {
			to := state{kind: api.Rain(k), dry: from.dry}
			if to.kind == api.RgDry {
				to.dry++
			}
			if possible && canFollow(c, from.kind, to.kind) && to.dry <= c.Dry.Max && !yield(to) {
				return
			}
		}
	}
}

func canFollow(c api.Climate, before, kind api.Rain) bool {
	return before == noKind || c.Next[before][kind]
}

// dropEnds drops the states from which no course goes on to the last year with enough dry ones.
func (l courses) dropEnds() {
	years := len(l.climate.Years)
	maps.DeleteFunc(l.after[years], func(s state, _ bool) bool { return s.dry < l.climate.Dry.Min })
	for year := range slices.Backward(l.climate.Years) {
		maps.DeleteFunc(l.after[year], func(s state, _ bool) bool {
			_, found := firstOf(l.next(year, s))
			return !found
		})
	}
}

// exist says whether there is a course.
func (l courses) exist() bool { return len(l.after[0]) > 0 }

// next yields the states that a year brings after a state in some course, by their kinds.
func (l courses) next(year int, from state) iter.Seq[state] {
	return func(yield func(state) bool) {
		for to := range steps(l.climate, year, from) {
			if l.after[year+1][to] && !yield(to) {
				return
			}
		}
	}
}

// kinds returns the kinds that each year has in some course.
func (l courses) kinds() []api.Kinds {
	years := make([]api.Kinds, len(l.climate.Years))
	for year := range years {
		for s := range l.after[year+1] {
			years[year][s.kind] = true
		}
	}
	return years
}

// each yields, the least one first, the courses of which each step is wanted.
func (l courses) each(wanted func(year int, from, to state) bool) iter.Seq[[]api.Rain] {
	return func(yield func([]api.Rain) bool) {
		var walk func(at state, course []api.Rain) bool
		walk = func(at state, course []api.Rain) bool {
			year := len(course)
			if year == len(l.climate.Years) {
				return yield(slices.Clone(course))
			}
			for to := range l.next(year, at) {
				if wanted(year, at, to) && !walk(to, append(course, to.kind)) {
					return false
				}
			}
			return true
		}
		if l.exist() {
			walk(start(), nil)
		}
	}
}
