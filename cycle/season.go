package cycle

import (
	"iter"

	"sobreiro/api"
)

// state is a year, and the times of the stands in it. What can come after it depends on nothing else.
type state struct {
	year  int
	times [api.MaxStands]int // ripened
}

// season is a year in which some stands are stripped. The year after the last one is the end: nothing is stripped in it.
type season struct {
	*woods
	state
	stripped set
	harvest  api.Harvest
}

// start returns the state in the first year.
func (w *woods) start() (at state) {
	for stand, g := range w.groves {
		at.times[stand] = g.ripened(g.since)
	}
	return at
}

// season returns what comes of stripping some stands in a state.
func (w *woods) season(at state, stripped set) season {
	x := season{woods: w, state: at, stripped: stripped}
	x.harvest.Bark = x.bark(stripped)
	for stand := range stripped.stands() {
		x.harvest.Days += w.groves[stand].days
	}
	x.harvest.Worth = w.worth(x.harvest.Bark, x.harvest.Days)
	return x
}

// bark returns what some stands give, or would give.
func (x season) bark(given set) (sum api.Bounds) {
	add := func(b api.Bounds) {
		sum.Min += b.Min
		sum.Max += b.Max
	}
	for stand := range given.stands() {
		add(x.groves[stand].gives(x.year, x.times[stand]))
	}
	return sum
}

// ready returns how much bark stands ready.
func (x season) ready() int { return x.bark(1<<len(x.groves) - 1).Min }

func (x season) isEnd() bool { return x.year == x.Term }

// next returns the state in the year after the season.
func (x season) next() state {
	at := state{year: x.year + 1}
	for stand, g := range x.groves {
		at.times[stand] = g.ripened(x.times[stand] + 1)
		if x.stripped.has(stand) {
			at.times[stand] = 1
		}
	}
	return at
}

// seasons yields the years of a plan, and the end.
func (w *woods) seasons(plan [][]int) iter.Seq[season] {
	return func(yield func(season) bool) {
		at := w.start()
		for _, stripped := range plan {
			x := w.season(at, setOf(stripped))
			if !yield(x) {
				return
			}
			at = x.next()
		}
		yield(w.season(at, 0))
	}
}

// rule is what a plan keeps in a year or at the end, and how it is seen that it does not.
type rule struct {
	kind   api.FaultKind
	broken func(season) (stand int, is bool)
}

// rules returns the rules in the order in which their faults are named.
func rules() []rule {
	return []rule{
		{api.CyRest, season.stripsTooSoon},
		{api.CyTeams, season.takesTooLong},
		{api.CyFloor, season.bringsTooLittle},
		{api.CyLeft, season.leavesTooLittle},
	}
}

// fault returns the first fault of the season.
func (x season) fault() api.Fault {
	for _, r := range rules() {
		if stand, is := r.broken(x); is {
			return api.Fault{Kind: r.kind, Year: x.year, Stand: stand}
		}
	}
	return api.Fault{}
}

func (x season) stripsTooSoon() (stand int, is bool) {
	for stand := range x.stripped.stands() {
		if x.times[stand] < x.Rest {
			return stand, true
		}
	}
	return 0, false
}

func (x season) takesTooLong() (stand int, is bool) { return 0, x.harvest.Days > x.Teams }

func (x season) bringsTooLittle() (stand int, is bool) {
	return 0, !x.isEnd() && x.harvest.Bark.Min < x.Floor
}

func (x season) leavesTooLittle() (stand int, is bool) { return 0, x.isEnd() && x.ready() < x.Left }
