package ring

import (
	"cmp"
	"iter"
)

// leastOf returns the least of several in an order, or a zero value if there is none.
func leastOf[T any](several iter.Seq[T], order func(a, b T) int) (least T) {
	found := false
	for x := range several {
		if !found || order(x, least) < 0 {
			least, found = x, true
		}
	}
	return least
}

// firstOf returns the first of several.
func firstOf[T any](several iter.Seq[T]) (first T, found bool) {
	for x := range several {
		return x, true
	}
	return first, false
}

func rising(a, b int) int { return cmp.Compare(a, b) }

// falling turns the order round, so that the least is the greatest.
func falling(a, b int) int { return cmp.Compare(b, a) }
