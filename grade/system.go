package grade

import (
	"slices"

	"sobreiro/api"
)

// difference says that the unknown high is at least the unknown low plus by.
type difference[U ~int] struct {
	low, high U
	by        int
}

// system is differences between unknowns, which are numbered from 0. The unknown 0 is known: it is the number 0.
type system[U ~int] struct {
	many        int // how many unknowns there are
	differences []difference[U]
}

// lowest is a number that no unknown is below, nor is any that is turned round.
const lowest = -max(api.MaxScale, api.MaxBias)

// least returns the least numbers that the unknowns can be, if there are any.
func (s system[U]) least() (numbers []int, found bool) {
	numbers = slices.Repeat([]int{lowest}, s.many)
	numbers[0] = 0
	// Unless some differences lead round in a circle and raise their own beginning, no way to a number leads through an unknown twice, so that the last round has nothing left to raise.
	for range s.many {
		if !s.relax(numbers) {
			return numbers, true
		}
	}
	return nil, false
}

// relax raises numbers that are too low for a difference, and says whether there were any.
func (s system[U]) relax(numbers []int) (raised bool) {
	for _, d := range s.differences {
		if n := numbers[d.low] + d.by; n > numbers[d.high] {
			numbers[d.high] = n
			raised = true
		}
	}
	return raised
}

// turned returns the system whose unknowns are 0 minus those of this one.
func (s system[U]) turned() system[U] {
	t := system[U]{many: s.many}
	for _, d := range s.differences {
		t.differences = append(t.differences, difference[U]{low: d.high, high: d.low, by: d.by})
	}
	return t
}
