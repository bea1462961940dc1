package cycle_test

import (
	"math"
	"math/rand"
	"slices"
	"strings"
	"testing"

	"sobreiro/api"
	"sobreiro/cycle"
)

// P4.1: what is within its range, at its ends too, is valid.
func TestChecksAccept(t *testing.T) {
	great := api.Stand{Trees: 10000, Dies: 1000, Since: 60, Days: 1000, Yields: slices.Repeat([]api.Bounds{bounds(0, 10000)}, 8)}
	least := api.Stand{Yields: []api.Bounds{{}}}
	full := api.Scheme{Rest: 30, Term: 12, Floor: 999999999, Teams: 10000, Price: 1000, Wage: 10000, Left: 999999999}
	for _, code := range []string{"A", "A-", "A2345678", "Z"} {
		great.Code = code
		full.Stands = append(full.Stands, great)
	}
	least.Code = "A"
	for i, s := range []api.Scheme{
		exampleScheme(), full,
		{Rest: 1, Term: 1},
		{Rest: 1, Term: 1, Stands: []api.Stand{}},
		{Rest: 1, Term: 1, Stands: []api.Stand{least}},
		changed(func(s *api.Scheme) { s.Stands[0].Yields[0] = known(10000) }),
	} {
		if e := cycle.CheckScheme(s); e != api.OK {
			t.Error(i, e)
		}
		if _, _, _, e := cycle.Follow(s, make([][]int, s.Term)); e != api.OK {
			t.Error(i, e)
		}
	}
}

// P4.1: stands are checked one by one, and of a stand's errors the one named first decides.
func TestStandErrors(t *testing.T) {
	good := func(code string) api.Stand { return api.Stand{Code: code, Yields: []api.Bounds{known(1)}} }
	with := func(code string, change func(t *api.Stand)) api.Stand {
		t := good(code)
		change(&t)
		return t
	}
	many := func(t *api.Stand) { t.Yields = make([]api.Bounds, 9) }
	none := func(t *api.Stand) { t.Yields = nil }
	empty := func(t *api.Stand) { t.Yields = []api.Bounds{} }
	wrong := func(t *api.Stand) { t.Trees = -1 }
	poor := func(t *api.Stand) { t.Yields = append(t.Yields, bounds(2, 1)) }
	for i, x := range []struct {
		stands []api.Stand
		want   api.Errno
	}{
		{[]api.Stand{good("A"), good("B"), good("C"), good("D")}, api.OK},
		{[]api.Stand{good("A"), good("B"), good("C"), good("D"), good("E")}, api.ErrCount},
		{[]api.Stand{{}, {}, {}, {}, {}}, api.ErrCount},
		{[]api.Stand{good("a")}, api.ErrCode},
		{[]api.Stand{good("A23456789")}, api.ErrCode},
		{[]api.Stand{{}}, api.ErrCode},
		{[]api.Stand{good("A"), good("A")}, api.ErrRepeat},
		{[]api.Stand{good("A"), good("B"), with("A", wrong)}, api.ErrRepeat},
		{[]api.Stand{good("A"), good("B"), with("B", none)}, api.ErrRepeat},
		{[]api.Stand{good("a"), good("a")}, api.ErrCode},
		{[]api.Stand{with("A", none)}, api.ErrCount},
		{[]api.Stand{with("A", empty)}, api.ErrCount},
		{[]api.Stand{with("A", many)}, api.ErrCount},
		{[]api.Stand{with("A", func(t *api.Stand) { many(t); poor(t) })}, api.ErrCount},
		{[]api.Stand{with("A", func(t *api.Stand) { none(t); wrong(t) })}, api.ErrValue},
		{[]api.Stand{with("A", poor)}, api.ErrValue},
		// The first stand with an error decides.
		{[]api.Stand{with("A", poor), good("a")}, api.ErrValue},
		{[]api.Stand{with("A", none), good("A")}, api.ErrCount},
		{[]api.Stand{good("A"), good("A"), good("a")}, api.ErrRepeat},
	} {
		if e := cycle.CheckScheme(api.Scheme{Rest: 1, Term: 1, Stands: x.stands}); e != x.want {
			t.Error(i, e)
		}
	}
}

// P4.1: the years of a plan are checked one by one, and so are the stands of a year.
func TestPlanErrors(t *testing.T) {
	for i, x := range []struct {
		plan [][]int
		want api.Errno
	}{
		{planOf(nil, nil, nil), api.OK},
		{planOf(years(0, 1), []int{}, years(1)), api.OK},
		{nil, api.ErrCount},
		{planOf(nil, nil), api.ErrCount},
		{planOf(nil, nil, nil, nil), api.ErrCount},
		{planOf(years(-1), nil), api.ErrCount},
		{planOf(years(2), nil, nil), api.ErrMissing},
		{planOf(nil, nil, years(-1)), api.ErrMissing},
		{planOf(nil, years(0, 1, 2), nil), api.ErrMissing},
		{planOf(years(math.MaxInt), nil, nil), api.ErrMissing},
		{planOf(years(math.MinInt), nil, nil), api.ErrMissing},
		{planOf(years(0, 0), nil, nil), api.ErrOrder},
		{planOf(nil, nil, years(1, 0)), api.ErrOrder},
		{planOf(years(1, 1, 2), nil, nil), api.ErrOrder},
		{planOf(years(1, 2, 1), nil, nil), api.ErrMissing},
		{planOf(years(1, -1), nil, nil), api.ErrMissing},
		{planOf(years(1, 0), years(2), nil), api.ErrOrder},
		{planOf(years(2), years(1, 0), nil), api.ErrMissing},
		{planOf(make([]int, 100000), nil, nil), api.ErrOrder},
	} {
		if l, ready, f, e := cycle.Follow(exampleScheme(), x.plan); e != x.want || e != api.OK && (l != nil || ready != 0 || f != api.Fault{}) {
			t.Error(i, l, ready, f, e)
		}
		if w, e := cycle.Worth(exampleScheme(), x.plan); e != x.want && (x.want != api.OK || e != api.ErrAgainst) || e != api.OK && w != 0 {
			t.Error(i, w, e)
		}
		if text, e := cycle.Print(exampleScheme(), x.plan); e != x.want || (e == api.OK) != (text != "") {
			t.Error(i, text, e)
		}
	}
	if _, _, _, e := cycle.Follow(api.Scheme{Rest: 1, Term: 1}, planOf(years(0))); e != api.ErrMissing {
		t.Error(e)
	}
}

// call is what the functions are asked with.
type call struct {
	s     api.Scheme
	plan  [][]int
	stand int
}

func exampleCall() call { return call{exampleScheme(), planOf(nil, years(1), years(0)), 1} }

// flaw makes a call invalid.
type flaw func(x *call)

// check is what the functions look at in one go: flaws that it finds, and its error.
type check struct {
	e     api.Errno
	flaws []flaw
}

// number is a number that has a range.
type number struct {
	low, high int
	set       func(x *call, n int)
}

// ranged returns a check of numbers.
func ranged(l ...number) check {
	c := check{e: api.ErrValue}
	for _, r := range l {
		for _, n := range outside(r.low, r.high) {
			c.flaws = append(c.flaws, func(x *call) { r.set(x, n) })
		}
	}
	return c
}

func schemeChecks() []check {
	value := ranged(
		number{1, api.MaxRest, func(x *call, n int) { x.s.Rest = n }},
		number{1, api.MaxTerm, func(x *call, n int) { x.s.Term = n }},
		number{0, api.MaxFloor, func(x *call, n int) { x.s.Floor = n }},
		number{0, api.MaxTeams, func(x *call, n int) { x.s.Teams = n }},
		number{0, api.MaxPrice, func(x *call, n int) { x.s.Price = n }},
		number{0, api.MaxWage, func(x *call, n int) { x.s.Wage = n }},
		number{0, api.MaxFloor, func(x *call, n int) { x.s.Left = n }},
	)
	count := check{api.ErrCount, []flaw{func(x *call) { x.s.Stands = append(x.s.Stands, make([]api.Stand, 3)...) }}}
	first := standChecks(0)
	return slices.Concat([]check{value, count, first[0]}, first[2:], standChecks(1))
}

// standChecks returns the checks of a stand: its code, whether it repeats the first one's, its numbers, and the number and the values of its yields.
func standChecks(stand int) []check {
	at := func(change func(t *api.Stand)) flaw { return func(x *call) { change(&x.s.Stands[stand]) } }
	numbered := func(high int, set func(t *api.Stand, n int)) number {
		return number{0, high, func(x *call, n int) { set(&x.s.Stands[stand], n) }}
	}
	code := check{e: api.ErrCode}
	for _, s := range []string{"", "a", "9", "A_", "A;", "A23456789", "\xff"} {
		code.flaws = append(code.flaws, at(func(t *api.Stand) { t.Code = s }))
	}
	repeat := check{api.ErrRepeat, []flaw{func(x *call) { x.s.Stands[stand].Code = x.s.Stands[0].Code }}}
	value := ranged(
		numbered(api.MaxWood, func(t *api.Stand, n int) { t.Trees = n }),
		numbered(1000, func(t *api.Stand, n int) { t.Dies = n }),
		numbered(api.MaxSince, func(t *api.Stand, n int) { t.Since = n }),
		numbered(api.MaxDays, func(t *api.Stand, n int) { t.Days = n }),
	)
	count := check{api.ErrCount, []flaw{
		at(func(t *api.Stand) { t.Yields = nil }),
		at(func(t *api.Stand) { t.Yields = append(t.Yields, make([]api.Bounds, 8)...) }),
	}}
	yields := check{e: api.ErrValue}
	for _, b := range wrongBounds(api.MaxBark) {
		yields.flaws = append(yields.flaws, at(func(t *api.Stand) { t.Yields[0] = b }), at(func(t *api.Stand) { t.Yields = append(t.Yields, b) }))
	}
	return []check{code, repeat, value, count, yields}
}

func planChecks() []check {
	with := func(year int, first ...int) flaw {
		return func(x *call) { x.plan[year] = slices.Concat(first, x.plan[year]) }
	}
	return []check{
		{api.ErrCount, []flaw{
			func(x *call) { x.plan = nil },
			func(x *call) { x.plan = x.plan[:2] },
			func(x *call) { x.plan = append(x.plan, nil) },
		}},
		{api.ErrMissing, []flaw{with(0, -1), with(0, 2), with(0, 0, 1, math.MaxInt)}},
		{api.ErrOrder, []flaw{with(0, 0, 0), with(0, 1, 0), with(0, 0, 1, 1)}},
		{api.ErrMissing, []flaw{with(2, -1), with(2, 2), with(2, math.MinInt)}},
		{api.ErrOrder, []flaw{with(2, 0), with(2, 1)}},
	}
}

func standCheck() check {
	c := check{e: api.ErrMissing}
	for _, n := range outside(0, 1) {
		c.flaws = append(c.flaws, func(x *call) { x.stand = n })
	}
	return c
}

// ordered checks a function: each flaw has its error, and of two flaws the one of the earlier check decides.
func ordered(t *testing.T, name string, checks []check, ask func(x call) (zero bool, e api.Errno)) {
	t.Helper()
	if _, e := ask(exampleCall()); e != api.OK {
		t.Error(name, "without a flaw", e)
	}
	for i, first := range checks {
		for n, a := range first.flaws {
			x := exampleCall()
			a(&x)
			if zero, e := ask(x); !zero || e != first.e {
				t.Error(name, i, n, zero, e)
			}
			for j, later := range checks[i+1:] {
				for m, b := range later.flaws {
					x := exampleCall()
					b(&x)
					a(&x)
					if zero, e := ask(x); !zero || e != first.e {
						t.Error(name, i, n, "before", i+1+j, m, zero, e)
					}
				}
			}
		}
	}
}

// P4.1 to P4.4, P0.1: the errors of all functions, in their order, and zero values with them.
func TestErrors(t *testing.T) {
	scheme, plan := schemeChecks(), slices.Concat(schemeChecks(), planChecks())
	ordered(t, "CheckScheme", scheme, func(x call) (bool, api.Errno) { return true, cycle.CheckScheme(x.s) })
	ordered(t, "Follow", plan, func(x call) (bool, api.Errno) {
		l, ready, f, e := cycle.Follow(x.s, x.plan)
		return l == nil && ready == 0 && f == api.Fault{}, e
	})
	against := check{api.ErrAgainst, []flaw{
		func(x *call) { x.s.Floor = 1 },
		func(x *call) { x.s.Left = 1 },
		func(x *call) { x.s.Teams = 5 },
		func(x *call) { x.s.Rest = 10 },
	}}
	ordered(t, "Worth", slices.Concat(plan, []check{against}), func(x call) (bool, api.Errno) {
		w, e := cycle.Worth(x.s, x.plan)
		return w == 0, e
	})
	ordered(t, "Best", scheme, func(x call) (bool, api.Errno) {
		p, w, found, e := cycle.Best(x.s)
		return p == nil && w == 0 && !found, e
	})
	ordered(t, "Highest", scheme, func(x call) (bool, api.Errno) {
		n, found, e := cycle.Highest(x.s)
		return n == 0 && !found, e
	})
	ordered(t, "Alone", slices.Concat(scheme, []check{standCheck()}), func(x call) (bool, api.Errno) {
		l, w, e := cycle.Alone(x.s, x.stand)
		return l == nil && w == 0, e
	})
	ordered(t, "Print", plan, func(x call) (bool, api.Errno) {
		s, e := cycle.Print(x.s, x.plan)
		return s == "", e
	})
}

// P0.1: whatever is asked, there is an answer, and no other result with an error.
func TestAnyArguments(t *testing.T) {
	r := rand.New(rand.NewSource(11))
	all := slices.Concat(schemeChecks(), planChecks(), []check{standCheck()})
	for range 20 * often {
		x := exampleCall()
		for _, c := range slices.Backward(all) {
			if r.Intn(20) == 0 {
				c.flaws[r.Intn(len(c.flaws))](&x)
			}
		}
		x.s.Floor += r.Intn(2)
		if l, ready, f, e := cycle.Follow(x.s, x.plan); e != api.OK && (l != nil || ready != 0 || f != api.Fault{}) || e == api.OK && len(l) != 3 {
			t.Fatal(x, l, ready, f, e)
		}
		if w, e := cycle.Worth(x.s, x.plan); e != api.OK && w != 0 {
			t.Fatal(x, w, e)
		}
		if p, w, found, e := cycle.Best(x.s); !found && (p != nil || w != 0) || found && (e != api.OK || len(p) != 3) {
			t.Fatal(x, p, w, found, e)
		}
		if n, found, e := cycle.Highest(x.s); !found && n != 0 || found && e != api.OK {
			t.Fatal(x, n, found, e)
		}
		if l, w, e := cycle.Alone(x.s, x.stand); e != api.OK && (l != nil || w != 0) {
			t.Fatal(x, l, w, e)
		}
		if s, e := cycle.Print(x.s, x.plan); (e == api.OK) != strings.HasPrefix(s, "scheme;") {
			t.Fatal(x, s, e)
		}
	}
}

// R3: nil and empty slices are the same value.
func TestNilAndEmpty(t *testing.T) {
	s := api.Scheme{Rest: 1, Term: 2, Stands: []api.Stand{}}
	if l, ready, f, e := cycle.Follow(s, [][]int{{}, nil}); !slices.Equal(l, make([]api.Harvest, 2)) || ready != 0 || f != (api.Fault{}) || e != api.OK {
		t.Error(l, ready, f, e)
	}
	if p, w, found, e := cycle.Best(s); !samePlan(p, planOf(nil, nil)) || w != 0 || !found || e != api.OK {
		t.Error(p, w, found, e)
	}
	if l, w, e := cycle.Alone(s, 0); l != nil || w != 0 || e != api.ErrMissing {
		t.Error(l, w, e)
	}
	if _, _, _, e := cycle.Follow(s, [][]int{}); e != api.ErrCount {
		t.Error(e)
	}
}

// R4: no argument is changed, and no result shares memory with one, or with another part of it.
func TestArgumentsAreKept(t *testing.T) {
	s, plan := exampleScheme(), planOf(years(0), years(1), years(0, 1))
	s.Rest, s.Teams, s.Floor = 1, 11, 1
	kept, text := clone(s), "scheme;1;3;0;0;0;0;0\nstand;A;1;0;0;0\nyield;1;2\nyield;3;4\nstand;B;1;0;0;0\nyield;5;6\nstrip;0;A\nstrip;2;B\n"
	cycle.CheckScheme(s)
	l, _, _, _ := cycle.Follow(s, plan)
	cycle.Worth(s, plan)
	cycle.Highest(s)
	cycle.Print(s, plan)
	best, _, found, _ := cycle.Best(s)
	alone, _, _ := cycle.Alone(s, 0)
	clear(l)
	clear(alone)
	for year := range best {
		if len(best[year]) != 2 {
			t.Error(best)
		}
		clear(best[year])
		_ = append(best[year], -1)
	}
	if !found || len(alone) == 0 || !sameScheme(s, kept) || !samePlan(plan, planOf(years(0), years(1), years(0, 1))) {
		t.Error(best, alone, s, plan)
	}
	p, q, _, _ := cycle.Parse(text)
	_ = append(p.Stands[0].Yields[:1], known(9))
	_ = append(q[0], 7)
	if p.Stands[1].Yields[0] != bounds(5, 6) || !samePlan(q, planOf(years(0), nil, years(1))) {
		t.Error(p, q)
	}
}

// P0.1: what is followed at once gives the same each time.
func TestSameEachTime(t *testing.T) {
	r := rand.New(rand.NewSource(12))
	for range often {
		s := someScheme(r, 4, 1+r.Intn(6))
		plan := somePlan(r, s, 3)
		l, ready, f, _ := cycle.Follow(s, plan)
		best, w, found, _ := cycle.Best(s)
		for range 3 {
			if k, again, g, e := cycle.Follow(s, plan); !slices.Equal(k, l) || again != ready || g != f || e != api.OK {
				t.Fatal(s, plan, l, k, f, g)
			}
			if p, v, can, e := cycle.Best(s); !samePlan(p, best) || v != w || can != found || e != api.OK {
				t.Fatal(s, best, p)
			}
		}
	}
}
