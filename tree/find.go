package tree

import (
	"iter"

	"sobreiro/api"
)

// eachYear yields the years of bounds, ascending.
func eachYear(b api.Bounds) iter.Seq[int] {
	return func(yield func(int) bool) {
		for y := b.Min; y <= b.Max; y++ {
			if !yield(y) {
				return
			}
		}
	}
}

// firstOf returns the first of several that is wanted.
func firstOf[T any](several iter.Seq[T], wanted func(T) bool) (first T, found bool) {
	for x := range several {
		if wanted(x) {
			return x, true
		}
	}
	return first, false
}
