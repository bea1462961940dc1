package cycle

import (
	"sync"

	"sobreiro/api"
)

// whole is all of a stand, in thousandths.
const whole = 1000

// bearing is what a stand gives: its trees in each year of the term and at the end, and what one of them gives.
type bearing struct {
	rest   int
	trees  []int
	yields []api.Bounds
}

// gives returns what the stand gives in a year at a time.
func (b bearing) gives(year, time int) api.Bounds {
	if time < b.rest {
		return api.Bounds{}
	}
	trees, tree := b.trees[year], b.yields[b.ripened(time)-b.rest]
	return api.Bounds{Min: trees * tree.Min, Max: trees * tree.Max}
}

// ripened returns the time itself, or the first one from which on the stand gives the same. Times that differ no more are one, so that there are fewer to look at.
func (b bearing) ripened(time int) int { return min(time, b.rest+len(b.yields)-1) }

// grove is a stand that is followed through the years of a scheme.
type grove struct {
	bearing
	since, days int
}

// groveOf follows a stand.
func groveOf(s api.Scheme, t api.Stand) grove {
	trees := []int{t.Trees}
	for year := range s.Term {
		n := trees[year]
		trees = append(trees, n-n*t.Dies/whole)
	}
	return grove{bearing{s.Rest, trees, t.Yields}, t.Since, t.Days}
}

// woods are a scheme and its stands, which are followed.
type woods struct {
	api.Scheme
	groves []grove
}

// woodsOf follows the stands of a scheme, all at once.
func woodsOf(s api.Scheme) *woods {
	type followed struct {
		stand int
		grove grove
	}
	done := make(chan followed, len(s.Stands))
	var ways sync.WaitGroup
	for i, t := range s.Stands {
		ways.Go(func() { done <- followed{i, groveOf(s, t)} })
	}
	ways.Wait()
	close(done)
	w := &woods{s, make([]grove, len(s.Stands))}
	for f := range done {
		w.groves[f.stand] = f.grove
	}
	return w
}

// worth returns what bark is worth, less the wages of the days that it takes.
func (w *woods) worth(bark api.Bounds, days int) int { return w.Price*bark.Min - w.Wage*days }
