package grade

import (
	"iter"
	"slices"
	"sync"
)

// lists yields all ascending lists of so many whole numbers from low to the one before high, the least list first.
func lists(low, high, many int) iter.Seq[[]int] {
	return func(yield func([]int) bool) {
		var goOn func(l []int, from int) bool
		goOn = func(l []int, from int) bool {
			if len(l) == many {
				return yield(slices.Clone(l))
			}
			for n := from; n+many-len(l) <= high; n++ {
				if !goOn(append(l, n), n+1) {
					return false
				}
			}
			return true
		}
		goOn(nil, low)
	}
}

// conflict returns the fewest judgements that contradict each other, of several the least list.
func (t *table) conflict() (judgements []int, found bool) {
	if !t.contradict(t.all()) {
		return nil, false
	}
	for many := 1; !found; many++ {
		judgements, found = t.conflictOf(many)
	}
	return judgements, true
}

// conflictOf returns the least list of so many judgements that contradict each other.
func (t *table) conflictOf(many int) (least []int, found bool) {
	conflicts, done := make(chan []int), make(chan bool)
	var searches sync.WaitGroup
	for first := range t.judgements {
		searches.Go(func() {
			if l, is := t.conflictFrom(first, many); is {
				conflicts <- l
			}
		})
	}
	go func() {
		searches.Wait()
		close(done)
	}()
collect:
	for {
		select {
		case l := <-conflicts: // in any order
			if !found || slices.Compare(l, least) < 0 {
				least, found = l, true
			}
		case <-done:
			break collect
		}
	}
	return least, found
}

// conflictFrom returns the least list of so many judgements that contradict each other and of which a given one is the first.
func (t *table) conflictFrom(first, many int) (judgements []int, found bool) {
	for rest := range lists(first+1, len(t.judgements), many-1) {
		l := slices.Concat([]int{first}, rest)
		if t.contradict(l) {
			return l, true
		}
	}
	return nil, false
}

// leave returns the fewest graders without whose judgements the others do not contradict each other, of several the least list.
func (t *table) leave() []int {
	for many := range len(t.Graders) + 1 {
		for graders := range lists(0, len(t.Graders), many) {
			if !t.contradict(t.without(graders)) {
				return graders
			}
		}
	}
	return nil // never: without all graders nothing is left that contradicts
}
