package cycle_test

import (
	"cmp"
	"math/rand"
	"slices"
	"testing"

	"sobreiro/api"
	"sobreiro/cycle"
)

// shapes are how many stands and years schemes have of which all plans are counted out.
func shapes() [][2]int { return [][2]int{{0, 3}, {1, 1}, {1, 10}, {2, 1}, {2, 5}, {3, 3}, {4, 2}} }

// P4.2: the example, and which of several plans.
func TestBest(t *testing.T) {
	one := api.Stand{Since: 1, Yields: []api.Bounds{known(1)}}
	two := api.Stand{Since: 2, Yields: []api.Bounds{known(1)}}
	floored := func(floor int, s api.Scheme) api.Scheme {
		s.Floor = floor
		return s
	}
	for i, x := range []struct {
		s     api.Scheme
		plan  [][]int
		worth int
	}{
		{exampleScheme(), planOf(nil, years(1), years(0)), 4470},
		{changed(func(s *api.Scheme) { s.Teams = 5 }), planOf(nil, nil, years(0)), 2850},
		{changed(func(s *api.Scheme) { s.Teams = 4 }), planOf(nil, nil, nil), 0},
		{changed(func(s *api.Scheme) { s.Left = 1 }), planOf(nil, nil, years(0)), 2850},
		{changed(func(s *api.Scheme) { s.Left = 777 }), planOf(nil, nil, years(0)), 2850},
		{changed(func(s *api.Scheme) { s.Left = 778 }), planOf(nil, years(1), nil), 1620},
		{changed(func(s *api.Scheme) { s.Left = 1501 }), planOf(nil, nil, nil), 0},
		// What is not worth its wages is not stripped, unless the Floor asks for it.
		{changed(func(s *api.Scheme) { s.Price = 0 }), planOf(nil, nil, nil), 0},
		{changed(func(s *api.Scheme) { s.Term, s.Floor, s.Price = 1, 1000, 0 }), planOf(years(0)), -150},
		// Of several plans of the same worth: first those in which less is stripped in the first year, by the numbers of the sets.
		{bare(9, 3, two), planOf(nil, nil, nil), 0},
		{bare(2, 2, two), planOf(nil, years(0)), 1},
		{bare(2, 3, two), planOf(years(0), nil, years(0)), 2},
		{bare(2, 2, two, two), planOf(nil, years(0, 1)), 2},
		{floored(1, bare(2, 2, two, two)), planOf(years(0), years(1)), 2},
		{floored(1, bare(3, 3, api.Stand{Since: 3, Yields: []api.Bounds{known(1)}}, api.Stand{Since: 3, Yields: []api.Bounds{known(1)}}, api.Stand{Since: 3, Yields: []api.Bounds{known(1)}})), planOf(years(0), years(1), years(2)), 3},
		{floored(2, bare(1, 1, one, one, one)), planOf(years(0, 1, 2)), 3},
		{floored(2, bare(1, 1, one, one, api.Stand{Since: 1, Yields: []api.Bounds{known(2)}}, api.Stand{Since: 1, Yields: []api.Bounds{known(2)}})), planOf(years(0, 1, 2, 3)), 6},
		{api.Scheme{Rest: 1, Term: 1, Floor: 2, Teams: 9, Price: 0, Stands: floored(2, bare(1, 1, one, one, api.Stand{Since: 1, Yields: []api.Bounds{known(2)}})).Stands}, planOf(years(0, 1)), 0},
		{api.Scheme{Rest: 1, Term: 2}, planOf(nil, nil), 0},
	} {
		if p, w, found, e := cycle.Best(x.s); !samePlan(p, x.plan) || w != x.worth || !found || e != api.OK {
			t.Error(i, p, w, found, e)
		}
	}
}

// P4.2: where there is no plan without a fault.
func TestBestNot(t *testing.T) {
	for i, s := range []api.Scheme{
		changed(func(s *api.Scheme) { s.Floor = 1 }),
		changed(func(s *api.Scheme) { s.Left = 2278 }),
		changed(func(s *api.Scheme) { s.Term, s.Floor, s.Teams = 1, 1, 4 }),
		changed(func(s *api.Scheme) { s.Term, s.Floor = 1, 1001 }),
		changed(func(s *api.Scheme) { s.Term, s.Floor, s.Left = 1, 1000, 946 }),
		{Rest: 1, Term: 1, Floor: 1},
		{Rest: 1, Term: 1, Left: 1},
	} {
		if p, w, found, e := cycle.Best(s); p != nil || w != 0 || found || e != api.OK {
			t.Error(i, p, w, found, e)
		}
	}
	if p, w, found, e := cycle.Best(changed(func(s *api.Scheme) { s.Term, s.Floor, s.Left = 1, 1000, 900 })); !samePlan(p, planOf(years(0))) || w != 1850 || !found || e != api.OK {
		t.Error(p, w, found, e)
	}
}

// P4.2
func TestHighest(t *testing.T) {
	for i, x := range []struct {
		s     api.Scheme
		floor int
		found bool
	}{
		{exampleScheme(), 0, true},
		{changed(func(s *api.Scheme) { s.Term = 1 }), 1000, true},
		{changed(func(s *api.Scheme) { s.Term = 2 }), 900, true},
		// The scheme's own Floor does not count, its Teams and Left do.
		{changed(func(s *api.Scheme) { s.Term, s.Floor = 2, api.MaxFloor }), 900, true},
		{changed(func(s *api.Scheme) { s.Term, s.Teams = 1, 4 }), 0, true},
		{changed(func(s *api.Scheme) { s.Term, s.Left = 1, 900 }), 1000, true},
		{changed(func(s *api.Scheme) { s.Term, s.Left = 1, 901 }), 0, true},
		{changed(func(s *api.Scheme) { s.Term, s.Left = 1, 2300 }), 0, true},
		{changed(func(s *api.Scheme) { s.Term, s.Left = 1, 2301 }), 0, false},
		{changed(func(s *api.Scheme) { s.Left = 2278 }), 0, false},
		{changed(func(s *api.Scheme) { s.Rest, s.Term = 1, 2 }), 1050, true},
		{changed(func(s *api.Scheme) { s.Rest, s.Term, s.Teams = 1, 2, 11 }), 1900, true},
		// It is not the worth that counts.
		{changed(func(s *api.Scheme) { s.Term, s.Price, s.Wage = 1, 0, 10000 }), 1000, true},
		{api.Scheme{Rest: 1, Term: 12}, 0, true},
		{api.Scheme{Rest: 1, Term: 12, Left: 1}, 0, false},
	} {
		if n, found, e := cycle.Highest(x.s); n != x.floor || found != x.found || e != api.OK {
			t.Error(i, n, found, e)
		}
	}
}

// P4.2, P4.6, P0.3: the best plan and the highest floor are those among all plans.
func TestBestOfPlans(t *testing.T) {
	r := rand.New(rand.NewSource(4))
	several, missing, lost := 0, 0, 0
	for _, shape := range shapes() {
		for range often {
			s := someScheme(r, shape[0], shape[1])
			free := s
			free.Floor = 0
			var best [][]int
			worth, floor, many := 0, -1, 0
			for plan := range plans(shape[0], shape[1]) {
				x := storyOf(free, plan)
				if x.fault.Kind != api.CyNone {
					continue
				}
				floor = max(floor, x.least())
				if x.least() < s.Floor {
					continue
				}
				if best == nil || x.worth > worth {
					best, worth, many = plan, x.worth, 0
				}
				if x.worth == worth {
					many++
				}
			}
			if p, w, found, e := cycle.Best(s); !samePlan(p, best) || w != worth || found != (best != nil) || e != api.OK {
				t.Fatal(s, p, w, found, e, best, worth)
			}
			if n, found, e := cycle.Highest(s); n != max(floor, 0) || found != (floor >= 0) || e != api.OK {
				t.Fatal(s, n, found, e, floor)
			}
			switch {
			case floor < 0:
				missing++
			case best == nil:
				lost++
			case many > 1:
				several++
			}
		}
	}
	if several < often || missing < often/2 || lost < often/2 {
		t.Error("too few of a sort of schemes", several, missing, lost)
	}
}

// P4.3: the examples, and which of several lists.
func TestAlone(t *testing.T) {
	for i, x := range []struct {
		s     api.Scheme
		stand int
		want  []int
		worth int
	}{
		{exampleScheme(), 0, years(2), 2850},
		{exampleScheme(), 1, years(1), 1620},
		// Neither Floor nor Teams nor Left counts, nor does another stand.
		{changed(func(s *api.Scheme) { s.Floor, s.Left, s.Teams = api.MaxFloor, api.MaxFloor, 0 }), 0, years(2), 2850},
		{changed(func(s *api.Scheme) { s.Floor, s.Left, s.Teams = api.MaxFloor, api.MaxFloor, 0 }), 1, years(1), 1620},
		// What is not worth its wages is not stripped.
		{changed(func(s *api.Scheme) { s.Price = 0 }), 0, nil, 0},
		{changed(func(s *api.Scheme) { s.Wage = 600 }), 0, nil, 0},
		{changed(func(s *api.Scheme) { s.Wage = 599 }), 0, years(2), 5},
		{changed(func(s *api.Scheme) { s.Rest = 12 }), 0, nil, 0},
		{changed(func(s *api.Scheme) { s.Rest = 11 }), 0, years(2), 1850},
		{changed(func(s *api.Scheme) { s.Rest = 1 }), 0, years(0, 1, 2), 2*3500 - 450},
		// Of several lists of the same worth: the shorter one before the longer one that begins with it, the earlier year first.
		{bare(1, 3, api.Stand{Since: 1, Yields: []api.Bounds{bounds(0, 5)}}), 0, nil, 0},
		{bare(3, 3, api.Stand{Since: 3, Yields: []api.Bounds{known(1)}}), 0, years(0), 1},
		{bare(2, 4, api.Stand{Since: 2, Yields: []api.Bounds{known(1)}}), 0, years(0, 2), 2},
		{bare(1, 4, api.Stand{Since: 1, Yields: []api.Bounds{known(1), known(2)}}), 0, years(0, 1, 2, 3), 4},
		{bare(1, 5, api.Stand{Since: 2, Yields: []api.Bounds{known(1), known(2)}}), 0, years(0, 1, 2, 3, 4), 6},
		{bare(1, 4, api.Stand{Since: 1, Yields: []api.Bounds{known(0), known(2)}}), 0, years(1, 3), 4},
	} {
		if l, w, e := cycle.Alone(x.s, x.stand); !slices.Equal(l, x.want) || w != x.worth || e != api.OK {
			t.Error(i, l, w, e)
		}
	}
}

// P4.3: of all lists of years.
func TestAloneOfLists(t *testing.T) {
	r := rand.New(rand.NewSource(5))
	several := 0
	for range 4 * often {
		s := someScheme(r, 1+r.Intn(4), 1+r.Intn(8))
		s.Price, s.Wage = r.Intn(4), r.Intn(3)
		i := r.Intn(len(s.Stands))
		lists := slices.SortedFunc(subsets(s.Term), slices.Compare[[]int])
		var best []int
		worth, many := 0, 0
		for _, list := range lists {
			told := taleOf(s, s.Stands[i], func(year int) bool { return slices.Contains(list, year) })
			if slices.ContainsFunc(list, func(year int) bool { return told.times[year] < s.Rest }) {
				continue
			}
			w := 0
			for _, year := range list {
				w += s.Price*told.gives[year].Min - s.Wage*s.Stands[i].Days
			}
			if w > worth {
				best, worth, many = list, w, 0
			}
			if w == worth {
				many++
			}
		}
		if l, w, e := cycle.Alone(s, i); !slices.Equal(l, best) || w != worth || e != api.OK {
			t.Fatal(s, i, l, w, e, best, worth)
		}
		if many > 1 && worth > 0 {
			several++
		}
	}
	if several < often/4 {
		t.Error("too few lists of the same worth", several)
	}
}

// aloneAll returns what all stands are worth alone.
func aloneAll(s api.Scheme) (sum int) {
	for i := range s.Stands {
		_, w, _ := cycle.Alone(s, i)
		sum += w
	}
	return sum
}

// P4.6: the best plan is never worth more than all stands are alone, and just that if nothing holds them back.
func TestBestAgainstAlone(t *testing.T) {
	r := rand.New(rand.NewSource(6))
	less := 0
	for i := range 3 * often {
		s := someScheme(r, r.Intn(5), 1+r.Intn(8))
		if i%4 == 0 {
			s = greatScheme(r)
		}
		all := aloneAll(s)
		_, w, found, e := cycle.Best(s)
		if found && w > all || e != api.OK {
			t.Fatal(s, w, e, all)
		}
		if found && w < all {
			less++
		}
		s.Floor, s.Left, s.Teams = 0, 0, 0
		for _, stand := range s.Stands {
			s.Teams += stand.Days
		}
		if _, w, found, e := cycle.Best(s); w != all || !found || e != api.OK {
			t.Fatal(s, w, found, e, all)
		}
	}
	if less < often/4 {
		t.Error("too few plans are held back", less)
	}
}

// P4.6: up to the highest floor there is a plan, above it there is none.
func TestHighestAgainstBest(t *testing.T) {
	r := rand.New(rand.NewSource(7))
	some := 0
	for i := range 3 * often {
		s := someScheme(r, r.Intn(5), 1+r.Intn(6))
		if i%4 == 0 {
			s = greatScheme(r)
			s.Rest, s.Term = 1+r.Intn(3), 1+r.Intn(4)
		}
		n, can, _ := cycle.Highest(s)
		for _, floor := range []int{0, n / 2, n, n + 1, 2*n + 1, api.MaxFloor} {
			s.Floor = floor
			_, _, found, e := cycle.Best(s)
			if found != (can && floor <= n) || e != api.OK {
				t.Fatal(s, n, can, found, e)
			}
			if again, _, _ := cycle.Highest(s); again != n {
				t.Fatal(s, n, again)
			}
		}
		if n > 0 {
			some++
		}
	}
	if some < often/4 {
		t.Error("too few floors above 0", some)
	}
}

// easier returns a scheme that is changed so that no plan is worth less.
func easier(r *rand.Rand, s api.Scheme) api.Scheme {
	s = clone(s)
	switch r.Intn(6) {
	case 0:
		s.Floor = r.Intn(s.Floor + 1)
	case 1:
		s.Left = r.Intn(s.Left + 1)
	case 2:
		s.Teams += r.Intn(4)
	case 3:
		s.Price += r.Intn(3)
	case 4:
		s.Wage = r.Intn(s.Wage + 1)
	default:
		if len(s.Stands) == 0 {
			break
		}
		yields := s.Stands[r.Intn(len(s.Stands))].Yields
		b := &yields[r.Intn(len(yields))]
		low := b.Min + r.Intn(3)
		*b = bounds(low, max(low, b.Max)+r.Intn(3))
	}
	return s
}

// P4.7: a lower Floor, a lower Left, more Teams, a higher Price, a lower Wage and higher yields never make the best plan worth less.
func TestEasier(t *testing.T) {
	r := rand.New(rand.NewSource(8))
	better := 0
	for range 10 * often {
		s := someScheme(r, r.Intn(5), 1+r.Intn(6))
		o := easier(r, s)
		_, w, found, _ := cycle.Best(s)
		_, v, can, e := cycle.Best(o)
		if found && (!can || v < w) || e != api.OK {
			t.Fatal(s, w, found, o, v, can, e)
		}
		if can && (!found || v > w) {
			better++
		}
		n, _, _ := cycle.Highest(s)
		if m, _, _ := cycle.Highest(o); m < n {
			t.Fatal(s, n, o, m)
		}
	}
	if better < often/2 {
		t.Error("too few schemes become better", better)
	}
}

// P4.7, P4.6: the best plan has no fault and is worth what is said, and the strips of a stand lie at least Rest years apart.
func TestBestIsKept(t *testing.T) {
	r := rand.New(rand.NewSource(9))
	strips := 0
	for i := range 4 * often {
		s := someScheme(r, r.Intn(5), 1+r.Intn(10))
		if i%8 == 0 {
			s = greatScheme(r)
		}
		plan, worth, found, _ := cycle.Best(s)
		if !found {
			continue
		}
		if w, e := cycle.Worth(s, plan); w != worth || len(plan) != s.Term || e != api.OK {
			t.Fatal(s, plan, w, worth, e)
		}
		last := map[int]int{}
		for year, stripped := range plan {
			for _, stand := range stripped {
				before, again := last[stand]
				if again && year-before < s.Rest || !again && year+s.Stands[stand].Since < s.Rest {
					t.Fatal(s, plan, year, stand)
				}
				if again {
					strips++
				}
				last[stand] = year
			}
		}
	}
	if strips < often {
		t.Error("too few strips of the same stand", strips)
	}
}

// P4.2: the best plan is worth the same whatever the order of the stands is.
func TestOrderOfStands(t *testing.T) {
	r := rand.New(rand.NewSource(10))
	for range often {
		s := someScheme(r, 2+r.Intn(3), 1+r.Intn(6))
		o := clone(s)
		slices.SortFunc(o.Stands, func(a, b api.Stand) int { return cmp.Compare(b.Code, a.Code) })
		_, w, found, _ := cycle.Best(s)
		_, v, can, e := cycle.Best(o)
		if w != v || found != can || e != api.OK {
			t.Fatal(s, w, found, v, can, e)
		}
	}
}
