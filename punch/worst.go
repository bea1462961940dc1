package punch

import (
	"cmp"
	"math/bits"
	"slices"
	"sync"
)

// supposed is flaws that are not sure, and what a plan is worth if they are there.
type supposed struct {
	flaws []int
	worth int
}

// compareSupposed puts the lesser worth first, then the fewer flaws.
func compareSupposed(a, b supposed) int {
	return cmp.Or(cmp.Compare(a.worth, b.worth), cmp.Compare(len(a.flaws), len(b.flaws)), slices.Compare(a.flaws, b.flaws))
}

// worst returns the least worth of a plan with at most so many flaws that are not sure, and the first of the lists of the fewest ones.
func (b *board) worst(plan []int, many int) supposed {
	unsure := b.unsure()
	cases := make(chan supposed)
	var looks sync.WaitGroup
	for set := range 1 << len(unsure) {
		if bits.OnesCount(uint(set)) <= many {
			looks.Go(func() { cases <- b.suppose(plan, chosen(unsure, set)) })
		}
	}
	go func() {
		looks.Wait()
		close(cases)
	}()
	worst := <-cases       // there is always the set of none
	for s := range cases { // in any order
		worst = firstOf(compareSupposed, worst, s)
	}
	return worst
}

// unsure returns the flaws that are not sure.
func (b *board) unsure() (flaws []int) {
	for i, f := range b.Flaws {
		if !f.Sure {
			flaws = append(flaws, i)
		}
	}
	return flaws
}

// chosen returns those of several flaws whose bits are in a set.
func chosen(flaws []int, set int) (l []int) {
	for i, flaw := range flaws {
		if set>>i&1 == 1 {
			l = append(l, flaw)
		}
	}
	return l
}

// suppose returns what a plan is worth if of the flaws that are not sure some are there.
func (b *board) suppose(plan, flaws []int) supposed {
	there := coverIf(b.Lath, func(flaw int) bool { return b.Flaws[flaw].Sure || slices.Contains(flaws, flaw) })
	worth := 0
	for _, at := range plan {
		worth += b.Prices[there.class(b.cork(at))]
	}
	return supposed{flaws, worth}
}
