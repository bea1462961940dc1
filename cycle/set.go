package cycle

import (
	"iter"
	"slices"
)

// set is a set of stands: 2 to the power of the index is added for each of them.
type set int

func setOf(stands []int) (s set) {
	for _, stand := range stands {
		s |= 1 << stand
	}
	return s
}

func (s set) has(stand int) bool { return s>>stand&1 == 1 }

// stands yields the stands of the set, ascending.
func (s set) stands() iter.Seq[int] {
	return func(yield func(int) bool) {
		for stand := 0; s>>stand > 0; stand++ {
			if s.has(stand) && !yield(stand) {
				return
			}
		}
	}
}

// list returns the stands of the set, ascending.
func (s set) list() []int { return slices.Collect(s.stands()) }

// sets yields the sets of so many stands, the least one first.
func sets(many int) iter.Seq[set] {
	return func(yield func(set) bool) {
		for s := range set(1) << many {
			if !yield(s) {
				return
			}
		}
	}
}
