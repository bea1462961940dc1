package press

import (
	"iter"
	"slices"
	"sync"

	"sobreiro/api"
)

// mix is a mix and its cost, if one was found.
type mix struct {
	parts []int
	cost  int
	found bool
}

// isBetter says whether a mix costs less than another one, or as much and is the lesser list.
func (m mix) isBetter(other mix) bool {
	switch {
	case !m.found || !other.found:
		return m.found
	case m.cost != other.cost:
		return m.cost < other.cost
	default:
		return slices.Compare(m.parts, other.parts) < 0
	}
}

// cheapest returns the best mix of a recipe. Each number of parts of the first granule is looked at by a goroutine of its own.
func cheapest(r api.Recipe) (best mix) {
	if len(r.Granules) == 0 {
		return mix{}
	}
	mixes := make(chan mix)
	var searches sync.WaitGroup
	for first := range r.Granules[0].Stock + 1 {
		searches.Go(func() { mixes <- cheapestWith(r, first) })
	}
	go func() {
		searches.Wait()
		close(mixes)
	}()
	for m := range mixes { // in any order
		if m.isBetter(best) {
			best = m
		}
	}
	return best
}

// cheapestWith returns the best mix that has so many parts of the first granule.
func cheapestWith(r api.Recipe, first int) (best mix) {
	for parts := range fillings(r, first) {
		if !isMix(r, parts) {
			continue
		}
		if m := (mix{parts, costOf(r, parts), true}); m.isBetter(best) {
			best = mix{slices.Clone(parts), m.cost, true}
		}
	}
	return best
}

// fillings yields all lists of numbers of parts that the stock allows and that are enough together, with so many of the first granule. It goes on with the list that it has yielded.
func fillings(r api.Recipe, first int) iter.Seq[[]int] {
	return func(yield func([]int) bool) {
		parts := make([]int, len(r.Granules))
		var fill func(granule, left, stock int) bool // stock is that of this granule and all later ones
		fill = func(granule, left, stock int) bool {
			if granule == len(parts) {
				return left > 0 || yield(parts)
			}
			own := r.Granules[granule].Stock
			later := stock - own
			for n := max(0, left-later); n <= min(own, left); n++ {
				parts[granule] = n
				if !fill(granule+1, left-n, later) {
					return false
				}
			}
			return true
		}
		parts[0] = first
		if first <= r.Parts {
			fill(1, r.Parts-first, stockOf(r.Granules[1:]))
		}
	}
}

func stockOf(granules []api.Granule) (stock int) {
	for _, g := range granules {
		stock += g.Stock
	}
	return stock
}

// isMix says whether so many parts of each granule have the density that a recipe asks for, and not too many of them are fine.
func isMix(r api.Recipe, parts []int) bool {
	density, fine := 0, 0
	for i, n := range parts {
		density += n * r.Granules[i].Density
		if r.Granules[i].Fine {
			fine += n
		}
	}
	return r.Parts*r.Density.Min <= density && density <= r.Parts*r.Density.Max && fine*whole <= r.Parts*r.Fine
}

func costOf(r api.Recipe, parts []int) (cost int) {
	for i, n := range parts {
		cost += n * r.Granules[i].Price
	}
	return cost
}
