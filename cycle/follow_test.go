package cycle_test

import (
	"math/rand"
	"slices"
	"testing"

	"sobreiro/api"
	"sobreiro/cycle"
)

func harvest(bark api.Bounds, days, worth int) api.Harvest {
	return api.Harvest{Bark: bark, Days: days, Worth: worth}
}

func fault(kind api.FaultKind, year, stand int) api.Fault {
	return api.Fault{Kind: kind, Year: year, Stand: stand}
}

// P4.1: the examples, and what happens to the times and the trees.
func TestFollow(t *testing.T) {
	none := api.Harvest{}
	dying := bare(1, 4, api.Stand{Dies: 499, Since: 1, Yields: []api.Bounds{known(1)}}, api.Stand{Dies: 1000, Since: 1, Yields: []api.Bounds{known(1)}})
	dying.Stands[0].Trees, dying.Stands[1].Trees = 9, 7
	for i, x := range []struct {
		s     api.Scheme
		plan  [][]int
		want  []api.Harvest
		ready int
		fault api.Fault
	}{
		{exampleScheme(), planOf(nil, nil, nil), []api.Harvest{none, none, none}, 2277, api.Fault{}},
		{exampleScheme(), planOf(years(0), years(1), nil), []api.Harvest{harvest(bounds(1000, 1200), 5, 1850), harvest(known(900), 6, 1620), none}, 0, api.Fault{}},
		{exampleScheme(), planOf(years(1), nil, nil), []api.Harvest{harvest(known(0), 6, -180), none, none}, 1500, fault(api.CyRest, 0, 1)},
		{exampleScheme(), planOf(nil, years(0, 1), nil), []api.Harvest{none, harvest(bounds(2300, 2400), 11, 4270), none}, 0, fault(api.CyTeams, 1, 0)},
		// The second yield and the last one, and trees that die.
		{exampleScheme(), planOf(nil, years(1), years(0)), []api.Harvest{none, harvest(known(900), 6, 1620), harvest(bounds(1500, 1800), 5, 2850)}, 0, api.Fault{}},
		{exampleScheme(), planOf(nil, years(0), years(1)), []api.Harvest{none, harvest(bounds(1400, 1500), 5, 2650), harvest(bounds(861, 1230), 6, 1542)}, 0, api.Fault{}},
		{dying, planOf(years(0, 1), years(0, 1), years(0, 1), years(0, 1)), []api.Harvest{harvest(known(16), 0, 16), harvest(known(5), 0, 5), harvest(known(3), 0, 3), harvest(known(2), 0, 2)}, 2, api.Fault{}},
		// Each year after a strip adds 1 to the time: with Rest 2 a stand may be stripped again two years later.
		{bare(2, 4, api.Stand{Since: 2, Yields: []api.Bounds{known(3), known(5)}}), planOf(years(0), nil, years(0), nil), []api.Harvest{harvest(known(3), 0, 3), none, harvest(known(3), 0, 3), none}, 3, api.Fault{}},
		{bare(2, 4, api.Stand{Since: 2, Yields: []api.Bounds{known(3), known(5)}}), planOf(years(0), nil, nil, years(0)), []api.Harvest{harvest(known(3), 0, 3), none, none, harvest(known(5), 0, 5)}, 0, api.Fault{}},
		// A strip that comes too soon gives nothing, but it takes its days, and the time begins anew.
		{bare(2, 4, api.Stand{Since: 2, Yields: []api.Bounds{known(3)}}), planOf(years(0), years(0), years(0), nil), []api.Harvest{harvest(known(3), 0, 3), none, none, none}, 3, fault(api.CyRest, 1, 0)},
		{bare(3, 3, api.Stand{Since: 0, Yields: []api.Bounds{known(3)}}), planOf(nil, nil, years(0)), []api.Harvest{none, none, none}, 0, fault(api.CyRest, 2, 0)},
		{bare(3, 3, api.Stand{Since: 0, Yields: []api.Bounds{known(3)}}), planOf(nil, nil, nil), []api.Harvest{none, none, none}, 3, api.Fault{}},
		{bare(1, 2), planOf(nil, nil), []api.Harvest{none, none}, 0, api.Fault{}},
		{bare(30, 1, api.Stand{Since: 60, Yields: []api.Bounds{bounds(0, 10000)}}), planOf(years(0)), []api.Harvest{harvest(bounds(0, 10000), 0, 0)}, 0, api.Fault{}},
	} {
		if l, ready, f, e := cycle.Follow(x.s, x.plan); !slices.Equal(l, x.want) || ready != x.ready || f != x.fault || e != api.OK {
			t.Error(i, l, ready, f, e)
		}
	}
}

// P4.1: which fault is the first one.
func TestFaults(t *testing.T) {
	for i, x := range []struct {
		change func(s *api.Scheme)
		plan   [][]int
		want   api.Fault
	}{
		// Of a year: CyRest before CyTeams before CyFloor.
		{func(s *api.Scheme) { s.Floor = 2301 }, planOf(years(0, 1), nil, nil), fault(api.CyRest, 0, 1)},
		{func(s *api.Scheme) { s.Teams, s.Floor = 4, 1001 }, planOf(years(0), nil, nil), fault(api.CyTeams, 0, 0)},
		{func(s *api.Scheme) { s.Teams, s.Floor = 5, 1001 }, planOf(years(0), nil, nil), fault(api.CyFloor, 0, 0)},
		{func(s *api.Scheme) { s.Teams, s.Floor = 5, 1000 }, planOf(years(0), nil, nil), fault(api.CyFloor, 1, 0)},
		// The first stand of several that rest too little.
		{func(s *api.Scheme) { s.Rest = 30 }, planOf(nil, years(0, 1), nil), fault(api.CyRest, 1, 0)},
		{func(s *api.Scheme) { s.Rest = 10 }, planOf(nil, years(0, 1), nil), fault(api.CyRest, 1, 1)},
		// An earlier year before a later one, whatever the kinds are.
		{func(s *api.Scheme) { s.Floor = 1 }, planOf(nil, years(0, 1), years(0)), fault(api.CyFloor, 0, 0)},
		{func(s *api.Scheme) {}, planOf(nil, years(0, 1), years(0)), fault(api.CyTeams, 1, 0)},
		{func(s *api.Scheme) { s.Teams = 11 }, planOf(nil, years(0, 1), years(0)), fault(api.CyRest, 2, 0)},
		// Limits that are just kept.
		{func(s *api.Scheme) { s.Teams = 11 }, planOf(nil, years(0, 1), nil), api.Fault{}},
		{func(s *api.Scheme) { s.Teams = 0 }, planOf(nil, nil, nil), api.Fault{}},
		// At the end, after all years.
		{func(s *api.Scheme) { s.Left = 2277 }, planOf(nil, nil, nil), api.Fault{}},
		{func(s *api.Scheme) { s.Left = 2278 }, planOf(nil, nil, nil), fault(api.CyLeft, 3, 0)},
		{func(s *api.Scheme) { s.Left = 1 }, planOf(nil, years(1), years(0)), fault(api.CyLeft, 3, 0)},
		{func(s *api.Scheme) { s.Left, s.Teams = 2278, 4 }, planOf(nil, nil, years(0)), fault(api.CyTeams, 2, 0)},
		{func(s *api.Scheme) { s.Left, s.Floor = 2278, 1 }, planOf(nil, nil, nil), fault(api.CyFloor, 0, 0)},
	} {
		s := changed(x.change)
		if _, _, f, e := cycle.Follow(s, x.plan); f != x.want || e != api.OK {
			t.Error(i, f, e)
		}
		if worth, e := cycle.Worth(s, x.plan); (e == api.ErrAgainst) != (x.want != api.Fault{}) || e != api.OK && worth != 0 {
			t.Error(i, worth, e)
		}
	}
}

// P4.1
func TestWorth(t *testing.T) {
	for i, x := range []struct {
		s    api.Scheme
		plan [][]int
		want int
		e    api.Errno
	}{
		{exampleScheme(), planOf(nil, nil, nil), 0, api.OK},
		{exampleScheme(), planOf(years(0), years(1), nil), 3470, api.OK},
		{exampleScheme(), planOf(nil, years(1), years(0)), 4470, api.OK},
		{exampleScheme(), planOf(years(1), nil, nil), 0, api.ErrAgainst},
		{exampleScheme(), planOf(nil, years(0, 1), nil), 0, api.ErrAgainst},
		{changed(func(s *api.Scheme) { s.Floor = 1 }), planOf(nil, nil, nil), 0, api.ErrAgainst},
		{changed(func(s *api.Scheme) { s.Left = 2278 }), planOf(nil, nil, nil), 0, api.ErrAgainst},
		// Wages can be more than the bark is worth.
		{changed(func(s *api.Scheme) { s.Price = 0 }), planOf(years(0), nil, years(1)), -330, api.OK},
		{changed(func(s *api.Scheme) { s.Wage = 0 }), planOf(years(0), nil, years(1)), 3722, api.OK},
	} {
		if w, e := cycle.Worth(x.s, x.plan); w != x.want || e != x.e {
			t.Error(i, w, e)
		}
	}
}

// P4.1: the greatest numbers.
func TestGreatest(t *testing.T) {
	great := api.Stand{Trees: 10000, Since: 60, Days: 1000, Yields: slices.Repeat([]api.Bounds{known(10000)}, 8)}
	s := api.Scheme{Rest: 1, Term: 12, Teams: 10000, Floor: 400000000, Price: 1000, Wage: 10000, Left: 400000000}
	for i := range 4 {
		great.Code = "CODE-" + string(rune('A'+i))
		s.Stands = append(s.Stands, great)
	}
	plan := slices.Repeat([][]int{years(0, 1, 2, 3)}, 12)
	const each, all = 1000*400000000 - 10000*4000, 12 * (1000*400000000 - 10000*4000)
	l, ready, f, e := cycle.Follow(s, plan)
	if !slices.Equal(l, slices.Repeat([]api.Harvest{harvest(known(400000000), 4000, each)}, 12)) || ready != 400000000 || f != (api.Fault{}) || e != api.OK {
		t.Error(l, ready, f, e)
	}
	if w, e := cycle.Worth(s, plan); w != all || e != api.OK {
		t.Error(w, e)
	}
	if p, w, found, e := cycle.Best(s); !samePlan(p, plan) || w != all || !found || e != api.OK {
		t.Error(p, w, found, e)
	}
	if n, found, e := cycle.Highest(s); n != 400000000 || !found || e != api.OK {
		t.Error(n, found, e)
	}
	if l, w, e := cycle.Alone(s, 3); !slices.Equal(l, years(0, 1, 2, 3, 4, 5, 6, 7, 8, 9, 10, 11)) || w != all/4 || e != api.OK {
		t.Error(l, w, e)
	}
	s.Left++
	if p, w, found, e := cycle.Best(s); p != nil || w != 0 || found || e != api.OK {
		t.Error(p, w, found, e)
	}
	if n, found, e := cycle.Highest(s); n != 0 || found || e != api.OK {
		t.Error(n, found, e)
	}
}

// P4.1: Follow and Worth tell the same as the stands one after the other.
func TestFollowAsTold(t *testing.T) {
	r := rand.New(rand.NewSource(1))
	kinds := map[api.FaultKind]int{}
	for i := range 40 * often {
		s := someScheme(r, r.Intn(5), 1+r.Intn(12))
		if i%2 == 0 {
			s = greatScheme(r)
		}
		if r.Intn(4) == 0 {
			s.Left = r.Intn(api.MaxFloor + 1)
		}
		plan := somePlan(r, s, 1+r.Intn(s.Term*8))
		want := storyOf(s, plan)
		kinds[want.fault.Kind]++
		if l, ready, f, e := cycle.Follow(s, plan); !slices.Equal(l, want.harvests) || ready != want.ready || f != want.fault || e != api.OK {
			t.Fatal(s, plan, l, ready, f, e, want)
		}
		w, e := cycle.Worth(s, plan)
		if want.fault.Kind == api.CyNone && (w != want.worth || e != api.OK) || want.fault.Kind != api.CyNone && (w != 0 || e != api.ErrAgainst) {
			t.Fatal(s, plan, w, e, want)
		}
	}
	for kind := api.CyNone; kind <= api.CyLeft; kind++ {
		if kinds[kind] < often/2 {
			t.Error("too few faults of a kind", kind, kinds)
		}
	}
}

// realBark returns what so many trees really give, each within bounds.
func realBark(r *rand.Rand, trees int, each api.Bounds) (sum int) {
	for range trees {
		sum += each.Min + r.Intn(each.Max-each.Min+1)
	}
	return sum
}

// P4.5, P0.2: whatever each tree really gives, the bark of a year is within its bounds; a plan without a fault brings at least Floor, is worth at least its Worth, and leaves at least Left.
func TestRealYields(t *testing.T) {
	r := rand.New(rand.NewSource(2))
	kept := 0
	for range 40 * often {
		s := someScheme(r, 1+r.Intn(4), 1+r.Intn(6))
		plan := somePlan(r, s, 4)
		if best, _, found, _ := cycle.Best(s); found && r.Intn(2) == 0 {
			plan = best
		}
		l, _, f, _ := cycle.Follow(s, plan)
		worth, _ := cycle.Worth(s, plan)
		told := storyOf(s, plan)
		gives := func(i, year int) int {
			trees, time := told.tales[i].trees[year], told.tales[i].times[year]
			if time < s.Rest {
				return 0
			}
			yields := s.Stands[i].Yields
			return realBark(r, trees, yields[min(time-s.Rest, len(yields)-1)])
		}
		real := 0
		for year, h := range l {
			bark := 0
			for _, i := range plan[year] {
				bark += gives(i, year)
			}
			real += s.Price*bark - s.Wage*h.Days
			if bark < h.Bark.Min || bark > h.Bark.Max || f.Kind == api.CyNone && bark < s.Floor {
				t.Fatal(s, plan, year, bark, h)
			}
		}
		left := 0
		for i := range s.Stands {
			left += gives(i, s.Term)
		}
		if f.Kind != api.CyNone {
			continue
		}
		if kept++; real < worth || left < s.Left {
			t.Fatal(s, plan, real, worth, left)
		}
	}
	if kept < often {
		t.Error("too few plans without a fault", kept)
	}
}

// P4.7: a plan that is stopped after some years has the same harvests up to there.
func TestStopped(t *testing.T) {
	r := rand.New(rand.NewSource(3))
	for range 20 * often {
		s := greatScheme(r)
		plan := somePlan(r, s, 4)
		l, _, f, _ := cycle.Follow(s, plan)
		n := 1 + r.Intn(s.Term)
		stopped := slices.Concat(plan[:n], make([][]int, s.Term-n))
		if k, _, _, e := cycle.Follow(s, stopped); !slices.Equal(k[:n], l[:n]) || e != api.OK {
			t.Fatal(s, plan, n, l, k, e)
		}
		short := s
		short.Term = n
		k, _, g, e := cycle.Follow(short, plan[:n])
		if !slices.Equal(k, l[:n]) || e != api.OK || f.Kind != api.CyNone && f.Year < n && g != f {
			t.Fatal(s, plan, n, l, k, f, g, e)
		}
	}
}
