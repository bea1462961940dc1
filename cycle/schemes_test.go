package cycle_test

import (
	"iter"
	"math"
	"math/rand"
	"slices"

	"sobreiro/api"
)

// often is how many schemes are tried out where each plan of them is counted out.
const often = 150

func bounds(low, high int) api.Bounds { return api.Bounds{Min: low, Max: high} }

func known(n int) api.Bounds { return bounds(n, n) }

func years(l ...int) []int { return l }

// planOf returns a plan of so many years, which are none but for those that are given.
func planOf(first ...[]int) [][]int { return first }

// exampleScheme is the scheme of the chapter's examples.
func exampleScheme() api.Scheme {
	return api.Scheme{
		Rest: 9, Term: 3, Teams: 10, Price: 2, Wage: 30,
		Stands: []api.Stand{
			{Code: "A", Trees: 100, Since: 9, Days: 5, Yields: []api.Bounds{bounds(10, 12), bounds(14, 15), bounds(15, 18)}},
			{Code: "B", Trees: 50, Dies: 100, Since: 8, Days: 6, Yields: []api.Bounds{known(20), bounds(21, 30)}},
		},
	}
}

// changed returns the example's scheme, changed.
func changed(change func(s *api.Scheme)) api.Scheme {
	s := exampleScheme()
	change(&s)
	return s
}

// bare returns a scheme without a Floor, without wages, with all teams and with some stands of one tree.
func bare(rest, term int, stands ...api.Stand) api.Scheme {
	s := api.Scheme{Rest: rest, Term: term, Teams: api.MaxTeams, Price: 1}
	for i, t := range stands {
		t.Code, t.Trees = string(rune('A'+i)), 1
		s.Stands = append(s.Stands, t)
	}
	return s
}

// tale is what happens to a stand: in each year, and at the end, its trees, its time, and what it gives or would give.
type tale struct {
	trees, times []int
	gives        []api.Bounds
}

// taleOf tells what happens to a stand that is stripped in some years.
func taleOf(s api.Scheme, t api.Stand, stripped func(year int) bool) (l tale) {
	trees, time := t.Trees, t.Since
	for year := 0; year <= s.Term; year++ {
		l.trees, l.times = append(l.trees, trees), append(l.times, time)
		var each api.Bounds
		for n, y := range t.Yields {
			if time >= s.Rest+n {
				each = y
			}
		}
		l.gives = append(l.gives, bounds(trees*each.Min, trees*each.Max))
		trees -= trees * t.Dies / 1000
		time++
		if stripped(year) {
			time = 1
		}
	}
	return l
}

// story is what a plan brings, as the chapter tells it.
type story struct {
	harvests []api.Harvest
	ready    int
	worth    int
	fault    api.Fault
	tales    []tale
}

func isIn(plan [][]int, year, stand int) bool {
	return year < len(plan) && slices.Contains(plan[year], stand)
}

// storyOf follows the stands of a scheme one after the other.
func storyOf(s api.Scheme, plan [][]int) (x story) {
	x.harvests = make([]api.Harvest, s.Term)
	for i, t := range s.Stands {
		l := taleOf(s, t, func(year int) bool { return isIn(plan, year, i) })
		for year := range x.harvests {
			if isIn(plan, year, i) {
				h := &x.harvests[year]
				h.Bark.Min += l.gives[year].Min
				h.Bark.Max += l.gives[year].Max
				h.Days += t.Days
			}
		}
		x.ready += l.gives[s.Term].Min
		x.tales = append(x.tales, l)
	}
	for year := range x.harvests {
		h := &x.harvests[year]
		h.Worth = s.Price*h.Bark.Min - s.Wage*h.Days
		x.worth += h.Worth
	}
	x.fault = x.firstFault(s, plan)
	return x
}

func (x story) firstFault(s api.Scheme, plan [][]int) api.Fault {
	for year, h := range x.harvests {
		for i := range s.Stands {
			if isIn(plan, year, i) && x.tales[i].times[year] < s.Rest {
				return api.Fault{Kind: api.CyRest, Year: year, Stand: i}
			}
		}
		if h.Days > s.Teams {
			return api.Fault{Kind: api.CyTeams, Year: year}
		}
		if h.Bark.Min < s.Floor {
			return api.Fault{Kind: api.CyFloor, Year: year}
		}
	}
	if x.ready < s.Left {
		return api.Fault{Kind: api.CyLeft, Year: s.Term}
	}
	return api.Fault{}
}

// least returns the least Bark.Min of a year.
func (x story) least() int {
	least := math.MaxInt
	for _, h := range x.harvests {
		least = min(least, h.Bark.Min)
	}
	return least
}

// subsets yields the sets of so many stands, by the number that has 2 to the power of each index added.
func subsets(many int) iter.Seq[[]int] {
	return func(yield func([]int) bool) {
		for number := range 1 << many {
			var l []int
			for i := range many {
				if number&(1<<i) != 0 {
					l = append(l, i)
				}
			}
			if !yield(l) {
				return
			}
		}
	}
}

// plans yields all plans of so many years, the least one first.
func plans(stands, term int) iter.Seq[[][]int] {
	return func(yield func([][]int) bool) {
		var goOn func(plan [][]int) bool
		goOn = func(plan [][]int) bool {
			if len(plan) == term {
				return yield(plan)
			}
			for l := range subsets(stands) {
				if !goOn(append(slices.Clone(plan), l)) {
					return false
				}
			}
			return true
		}
		goOn(nil)
	}
}

// someScheme returns a scheme with small numbers, so that many plans are worth the same.
func someScheme(r *rand.Rand, stands, term int) api.Scheme {
	s := api.Scheme{
		Rest: 1 + r.Intn(3), Term: term, Teams: r.Intn(7), Price: r.Intn(3), Wage: r.Intn(4),
	}
	if r.Intn(2) == 0 {
		s.Floor = r.Intn(6)
	}
	if r.Intn(2) == 0 {
		s.Left = r.Intn(20)
	}
	for i := range stands {
		s.Stands = append(s.Stands, someStand(r, i))
	}
	return s
}

func someStand(r *rand.Rand, index int) api.Stand {
	t := api.Stand{Code: string(rune('A' + index)), Trees: r.Intn(5), Since: r.Intn(6), Days: r.Intn(4)}
	t.Dies = []int{0, 0, 250, 499, 500, 1000}[r.Intn(6)]
	for range 1 + r.Intn(4) {
		t.Yields = append(t.Yields, within(r, 0, 5))
	}
	return t
}

// greatScheme returns a scheme with numbers from all of their ranges.
func greatScheme(r *rand.Rand) api.Scheme {
	s := api.Scheme{
		Rest: 1 + r.Intn(12), Term: 1 + r.Intn(api.MaxTerm), Teams: r.Intn(4000), Price: r.Intn(api.MaxPrice + 1), Wage: r.Intn(api.MaxWage + 1),
	}
	for i := range r.Intn(api.MaxStands + 1) {
		t := api.Stand{
			Code: string(rune('A' + i)), Trees: r.Intn(api.MaxWood + 1), Dies: r.Intn(100), Since: r.Intn(api.MaxSince + 1), Days: r.Intn(api.MaxDays + 1),
		}
		for range 1 + r.Intn(api.MaxYields) {
			t.Yields = append(t.Yields, within(r, 0, api.MaxBark))
		}
		s.Stands = append(s.Stands, t)
	}
	return s
}

// somePlan returns a plan in which one of so many strips is made.
func somePlan(r *rand.Rand, s api.Scheme, of int) [][]int {
	plan := make([][]int, s.Term)
	for year := range plan {
		for i := range s.Stands {
			if r.Intn(of) == 0 {
				plan[year] = append(plan[year], i)
			}
		}
	}
	return plan
}

// within returns bounds that lie within others.
func within(r *rand.Rand, low, high int) api.Bounds {
	a, b := low+r.Intn(high-low+1), low+r.Intn(high-low+1)
	return bounds(min(a, b), max(a, b))
}

func samePlan(a, b [][]int) bool { return slices.EqualFunc(a, b, slices.Equal) }

func sameScheme(a, b api.Scheme) bool {
	return a.Rest == b.Rest && a.Term == b.Term && a.Floor == b.Floor && a.Teams == b.Teams && a.Price == b.Price && a.Wage == b.Wage && a.Left == b.Left &&
		slices.EqualFunc(a.Stands, b.Stands, func(t, u api.Stand) bool {
			return t.Code == u.Code && t.Trees == u.Trees && t.Dies == u.Dies && t.Since == u.Since && t.Days == u.Days && slices.Equal(t.Yields, u.Yields)
		})
}

// clone returns a scheme that shares no memory with s.
func clone(s api.Scheme) api.Scheme {
	s.Stands = slices.Clone(s.Stands)
	for i := range s.Stands {
		s.Stands[i].Yields = slices.Clone(s.Stands[i].Yields)
	}
	return s
}

// outside returns the numbers next to a range, and the ends of all numbers.
func outside(low, high int) []int { return []int{low - 1, high + 1, math.MinInt, math.MaxInt} }

// wrongBounds returns what are not bounds from 0 to high.
func wrongBounds(high int) []api.Bounds {
	return []api.Bounds{bounds(-1, 0), bounds(0, high+1), bounds(2, 1), bounds(math.MinInt, math.MaxInt), bounds(math.MaxInt, math.MinInt)}
}
