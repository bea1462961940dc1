package yard

import (
	"cmp"
	"iter"
)

// joined returns what is in one of two ascending lists or in both, ascending, each once.
func joined[T cmp.Ordered](a, b []T) (l []T) {
	for x := range inOrder(a, b) {
		if len(l) == 0 || l[len(l)-1] != x {
			l = append(l, x)
		}
	}
	return l
}

// inOrder yields the elements of two ascending lists, ascending. What is in both comes twice.
func inOrder[T cmp.Ordered](a, b []T) iter.Seq[T] {
	return func(yield func(T) bool) {
		low, high := a, b
		for len(low)+len(high) > 0 {
			if len(low) == 0 || len(high) > 0 && high[0] < low[0] {
				low, high = high, low
			}
			if !yield(low[0]) {
				return
			}
			low = low[1:]
		}
	}
}
