package taint

import (
	"cmp"
	"iter"
	"math/bits"
	"slices"
)

// set is indexes, a bit each: of corks or of planks.
type set uint

func setOf(indexes []int) (s set) {
	for _, i := range indexes {
		s |= 1 << i
	}
	return s
}

func (s set) size() int { return bits.OnesCount(uint(s)) }

func (s set) has(index int) bool { return s>>index&1 == 1 }

// list returns the indexes, ascending.
func (s set) list() (indexes []int) {
	for i := range bits.Len(uint(s)) {
		if s.has(i) {
			indexes = append(indexes, i)
		}
	}
	return indexes
}

// compareSets puts the smaller set first, then the lesser list.
func compareSets(a, b set) int {
	return cmp.Or(cmp.Compare(a.size(), b.size()), slices.Compare(a.list(), b.list()))
}

// subsets yields all sets of at most so many of the indexes of several.
func subsets(several, most int) iter.Seq[set] {
	return func(yield func(set) bool) {
		for s := range set(1) << several {
			if s.size() <= most && !yield(s) {
				return
			}
		}
	}
}
