package grade

import (
	"slices"

	"sobreiro/api"
	"sobreiro/terms"
)

// Teach returns the cut points of a camera with the fewest wrong items, and how many these are.
func Teach(readings, classes []int, many int) (cuts []int, wrong int, e api.Errno) {
	if e := checkTaught(readings, classes, many); e != api.OK {
		return nil, 0, e
	}
	best := lesson{readings, classes}.best(many)
	return best.cuts, best.wrong, api.OK
}

// checkTaught returns the first error of what a camera is taught.
func checkTaught(readings, classes []int, many int) api.Errno {
	if !terms.Within(many, 1, api.MaxCuts+1) {
		return api.ErrValue
	}
	if len(readings) > api.MaxTaught || len(classes) != len(readings) {
		return api.ErrCount
	}
	for i, reading := range readings {
		if !terms.Within(reading, 0, api.MaxScale) || !terms.Within(classes[i], 0, many-1) {
			return api.ErrValue
		}
	}
	return api.OK
}

// lesson is what a camera read, and the classes that a grader gave.
type lesson struct{ readings, classes []int }

// teaching is the cut points above a class, and how many items are wrong of those that are read as this class or a higher one.
type teaching struct {
	cuts  []int
	wrong int
}

// best returns the best teaching from the class 0 on.
func (l lesson) best(many int) teaching {
	starts := l.starts()
	var from []teaching // for each number at which the class may begin
	for _, start := range starts {
		from = append(from, teaching{wrong: l.wrongIn(many-1, start, api.MaxScale+1)})
	}
	for class := many - 2; class >= 0; class-- {
		from = l.teachings(class, starts, from)
	}
	return from[0]
}

// starts returns the numbers at which a class may begin, ascending. Between two of them no reading changes its class, so that only the least numbers count.
func (l lesson) starts() []int {
	starts := []int{0}
	for _, reading := range l.readings {
		starts = append(starts, reading+1)
	}
	slices.Sort(starts)
	return slices.Compact(starts)
}

// teachings returns the best teachings from a class on, for each number at which it may begin, if those of the next class are known.
func (l lesson) teachings(class int, starts []int, next []teaching) (from []teaching) {
	for i, start := range starts {
		best := teaching{wrong: len(l.readings) + 1}
		for j := i; j < len(starts); j++ {
			wrong := l.wrongIn(class, start, starts[j]) + next[j].wrong
			if wrong < best.wrong {
				best = teaching{slices.Concat(starts[j:j+1], next[j].cuts), wrong}
			}
		}
		from = append(from, best)
	}
	return from
}

// wrongIn returns how many items are wrong if the readings from low to the one before high have a class.
func (l lesson) wrongIn(class, low, high int) (wrong int) {
	for i, reading := range l.readings {
		if terms.Within(reading, low, high-1) && l.classes[i] != class {
			wrong++
		}
	}
	return wrong
}
