package tree_test

import (
	"math/rand"
	"slices"

	"sobreiro/api"
)

func bounds(low, high int) api.Bounds { return api.Bounds{Min: low, Max: high} }

// example is the forest of the chapter's examples, its tree stripped in some years.
func example(years ...int) api.Forest {
	t := api.Tree{Code: "S1", Born: bounds(10, 14), Taped: 40, Girth: bounds(690, 700), Grows: bounds(5, 8), Dead: -1}
	for _, y := range years {
		t.Strips = append(t.Strips, api.Strip{Year: y, Height: 1000})
	}
	return api.Forest{
		Law:   api.Law{Age: 25, Rest: 9, Girth: 700, Factors: [3]int{20, 25, 30}, Heal: 3},
		Trees: []api.Tree{t},
	}
}

// within returns bounds that lie within others.
func within(r *rand.Rand, low, high int) api.Bounds {
	a, b := low+r.Intn(high-low+1), low+r.Intn(high-low+1)
	return bounds(min(a, b), max(a, b))
}

// ascending returns at most many different years up to last, ascending.
func ascending(r *rand.Rand, many, last int) []int {
	var l []int
	for range r.Intn(many + 1) {
		l = append(l, r.Intn(last+1))
	}
	slices.Sort(l)
	return slices.Compact(l)
}

const smallYear = 12 // the last year of what a small forest tells

// small returns a forest of one tree whose numbers are so small that what is real can be counted out.
func small(r *rand.Rand) api.Forest {
	t := api.Tree{
		Code: "T", Born: within(r, 0, 5), Taped: r.Intn(smallYear + 1), Girth: within(r, 0, 9),
		Grows: within(r, 0, 2), Wounds: ascending(r, 1, smallYear), Dead: -1,
	}
	if r.Intn(4) == 0 {
		t.Dead = r.Intn(smallYear + 1)
	}
	for _, y := range ascending(r, 3, smallYear) {
		t.Strips = append(t.Strips, api.Strip{Year: y, Height: 1 + r.Intn(9)})
	}
	return api.Forest{
		Law: api.Law{
			Age: r.Intn(7), Rest: 1 + r.Intn(3), Girth: r.Intn(14),
			Factors: [3]int{r.Intn(12), r.Intn(16), r.Intn(20)}, Heal: r.Intn(3),
		},
		Trees: []api.Tree{t},
	}
}

// great returns a forest of one tree with numbers from all of their ranges.
func great(r *rand.Rand) api.Forest {
	t := api.Tree{
		Code: "T", Born: within(r, 0, 60), Taped: r.Intn(api.MaxYear + 1), Girth: within(r, 0, api.MaxGirth),
		Grows: within(r, 0, api.MaxGrowth), Wounds: ascending(r, api.MaxWounds, api.MaxYear), Dead: -1,
	}
	if r.Intn(4) == 0 {
		t.Dead = r.Intn(api.MaxYear + 1)
	}
	for _, y := range ascending(r, api.MaxStrips, api.MaxYear) {
		t.Strips = append(t.Strips, api.Strip{Year: y, Height: 1 + r.Intn(api.MaxHeight)})
	}
	return api.Forest{
		Law: api.Law{
			Age: r.Intn(40), Rest: 1 + r.Intn(api.MaxRest), Girth: r.Intn(2000),
			Factors: [3]int{r.Intn(51), r.Intn(51), r.Intn(51)}, Heal: r.Intn(api.MaxRest + 1),
		},
		Trees: []api.Tree{t},
	}
}

// clone returns a forest that shares no memory with f.
func clone(f api.Forest) api.Forest {
	f.Trees = slices.Clone(f.Trees)
	for i := range f.Trees {
		f.Trees[i].Strips = slices.Clone(f.Trees[i].Strips)
		f.Trees[i].Wounds = slices.Clone(f.Trees[i].Wounds)
	}
	return f
}

// same says whether two forests are the same, with nil and empty slices the same.
func same(a, b api.Forest) bool {
	return a.Law == b.Law && slices.EqualFunc(a.Trees, b.Trees, func(s, t api.Tree) bool {
		return s.Code == t.Code && s.Born == t.Born && s.Taped == t.Taped && s.Girth == t.Girth && s.Grows == t.Grows &&
			slices.Equal(s.Strips, t.Strips) && slices.Equal(s.Wounds, t.Wounds) && s.Dead == t.Dead
	})
}
