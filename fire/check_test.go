package fire_test

import (
	"math"
	"math/rand"
	"slices"
	"testing"

	"sobreiro/api"
	"sobreiro/fire"
)

// allWalls returns as many walls as fit between the cells of land, at most many.
func allWalls(l api.Land, many int) (walls []api.Wall) {
	for a := range l.Fuel {
		if a%l.Width+1 < l.Width && len(walls) < many {
			walls = append(walls, api.Wall{A: a + 1, B: a, Hold: 30})
		}
		if a+l.Width < len(l.Fuel) && len(walls) < many {
			walls = append(walls, api.Wall{A: a, B: a + l.Width})
		}
	}
	return walls
}

// P3.1: what is within its range, at its ends too, is valid.
func TestChecksAccept(t *testing.T) {
	great := flat(8, 8, 9)
	great.Limit, great.Slow, great.Walls = 30, 60, allWalls(great, 40)
	great.Fuel[7], great.Fuel[63] = bounds(0, 9), bounds(0, 0)
	if len(great.Walls) != 40 {
		t.Error(great.Walls)
	}
	for i, l := range []api.Land{
		exampleLand(), great, flat(1, 1, 0), flat(1, 8, 9), flat(8, 1, 9),
		{Width: 2, Height: 1, Slow: 1, Fuel: fuels(0, 9), Walls: []api.Wall{}},
		{Width: 1, Height: 2, Slow: 1, Fuel: fuels(0, 9), Walls: []api.Wall{{A: 1, B: 0}}},
	} {
		if e := fire.CheckLand(l); e != api.OK {
			t.Error(i, e)
		}
	}
	for i, d := range []api.FireDay{
		exampleDay(),
		{Winds: winds(calm)},
		{Winds: winds(west), Dry: bounds(0, 9), Hours: 200},
		{Winds: winds(calm, north, east, south, west), Dry: bounds(9, 9)},
	} {
		if e := fire.CheckDay(d); e != api.OK {
			t.Error(i, e)
		}
	}
}

// P3.1: walls are checked one by one, and of a wall's errors the one named first decides.
func TestWallErrors(t *testing.T) {
	good, bad := api.Wall{A: 0, B: 1, Hold: 30}, api.Wall{A: 1, B: 2, Hold: 31}
	for i, x := range []struct {
		walls []api.Wall
		want  api.Errno
	}{
		{[]api.Wall{good, {A: 3, B: 0}, {A: 5, B: 2, Hold: 1}}, api.OK},
		{[]api.Wall{{A: -1, B: 2, Hold: 31}}, api.ErrMissing},
		{[]api.Wall{{A: 5, B: 6, Hold: -1}}, api.ErrMissing},
		{[]api.Wall{{A: 6, B: 5}}, api.ErrMissing},
		{[]api.Wall{{A: 3, B: 6}}, api.ErrMissing},
		{[]api.Wall{{A: -3, B: 0}}, api.ErrMissing},
		{[]api.Wall{{A: math.MinInt, B: math.MaxInt}}, api.ErrMissing},
		{[]api.Wall{{A: 2, B: 3, Hold: 31}}, api.ErrOrder},
		{[]api.Wall{{A: 3, B: 2}}, api.ErrOrder},
		{[]api.Wall{{A: 1, B: 1}}, api.ErrOrder},
		{[]api.Wall{{A: 0, B: 4}}, api.ErrOrder},
		{[]api.Wall{{A: 0, B: 2}}, api.ErrOrder},
		{[]api.Wall{{A: 0, B: 5}}, api.ErrOrder},
		{[]api.Wall{{A: 2, B: 3}, {A: 2, B: 3}}, api.ErrOrder},
		{[]api.Wall{good, {A: 0, B: 1, Hold: 31}}, api.ErrRepeat},
		{[]api.Wall{good, {A: 1, B: 0, Hold: -1}}, api.ErrRepeat},
		{[]api.Wall{good, {A: 1, B: 4}, good}, api.ErrRepeat},
		{[]api.Wall{bad}, api.ErrValue},
		{[]api.Wall{{A: 1, B: 2, Hold: -1}}, api.ErrValue},
		{[]api.Wall{{A: 1, B: 2, Hold: math.MaxInt}}, api.ErrValue},
		// The first wall with an error decides.
		{[]api.Wall{bad, {A: -1, B: 0}}, api.ErrValue},
		{[]api.Wall{bad, bad}, api.ErrValue},
		{[]api.Wall{good, good, {A: 0, B: 6}}, api.ErrRepeat},
	} {
		l := exampleLand()
		l.Walls = x.walls
		if e := fire.CheckLand(l); e != x.want {
			t.Error(i, e)
		}
	}
}

// P3.1: lists of cells are checked one by one.
func TestCellErrors(t *testing.T) {
	for i, x := range []struct {
		from []int
		want api.Errno
	}{
		{nil, api.OK}, {cells(5), api.OK}, {cells(0, 1, 2, 3, 4, 5), api.OK},
		{cells(6), api.ErrMissing}, {cells(-1), api.ErrMissing}, {cells(0, 6), api.ErrMissing}, {cells(math.MinInt), api.ErrMissing}, {cells(3, -1), api.ErrMissing},
		{cells(3, 3), api.ErrOrder}, {cells(3, 2), api.ErrOrder}, {cells(0, 4, 1), api.ErrOrder}, {cells(3, 2, 6), api.ErrOrder}, {cells(3, 6, 2), api.ErrMissing},
		{make([]int, 100000), api.ErrOrder},
	} {
		if _, _, e := fire.Burns(exampleLand(), exampleDay(), x.from); e != x.want {
			t.Error(i, e)
		}
	}
}

// P3.2, P3.4: days are checked one by one.
func TestDayErrors(t *testing.T) {
	for i, x := range []struct {
		days []api.FireDay
		want api.Errno
	}{
		{nil, api.OK}, {days(slices.Repeat([]func(*api.FireDay){asItIs}, 10)...), api.OK},
		{make([]api.FireDay, 11), api.ErrCount}, {make([]api.FireDay, 10), api.ErrCount},
		{days(asItIs, withWinds()), api.ErrCount},
		{days(asItIs, func(d *api.FireDay) { d.Dry.Max = 10 }, withWinds()), api.ErrValue},
		{days(withWinds(), func(d *api.FireDay) { d.Hours = 201 }), api.ErrCount},
	} {
		if _, _, e := fire.Crosses(exampleLand(), x.days, nil, nil); e != x.want {
			t.Error(i, e)
		}
		if _, _, e := fire.Clear(exampleLand(), x.days, nil, nil, nil); e != x.want {
			t.Error(i, e)
		}
		if _, e := fire.Print(exampleLand(), x.days); e != x.want {
			t.Error(i, e)
		}
	}
}

// call is what the functions are asked with.
type call struct {
	l                     api.Land
	days                  []api.FireDay
	wind                  api.Wind
	from, to, may, labels []int
	weeks                 int
	grows                 api.Bounds
	eats                  []api.Bounds
	start                 api.Bounds
	rain                  []api.Bounds
}

func exampleCall() call {
	l := flat(4, 3, 5)
	l.Limit, l.Walls = 3, []api.Wall{{A: 5, B: 6, Hold: 7}}
	return call{l: l, days: days(asItIs), from: cells(4), to: cells(7), may: cells(5, 6), labels: make([]int, 12), eats: fuels(0, 0, 0, 0, 0, 0, 0, 0, 0, 0, 0, 0), rain: fuels(0, 5)}
}

// flaw makes a call invalid.
type flaw func(x *call)

// check is what the functions look at in one go: flaws that it finds, and its error.
type check struct {
	e     api.Errno
	flaws []flaw
}

func landChecks() []check {
	value := check{e: api.ErrValue}
	ranged := func(low, high int, set func(l *api.Land, n int)) {
		for _, n := range outside(low, high) {
			value.flaws = append(value.flaws, func(x *call) { set(&x.l, n) })
		}
	}
	ranged(1, api.MaxSide, func(l *api.Land, n int) { l.Width = n })
	ranged(1, api.MaxSide, func(l *api.Land, n int) { l.Height = n })
	ranged(0, api.MaxStrength, func(l *api.Land, n int) { l.Limit = n })
	ranged(1, api.MaxSlow, func(l *api.Land, n int) { l.Slow = n })
	count := check{api.ErrCount, []flaw{
		func(x *call) { x.l.Fuel = nil },
		func(x *call) { x.l.Fuel = x.l.Fuel[:11] },
		func(x *call) { x.l.Fuel = append(x.l.Fuel, bounds(2, 1)) },
		func(x *call) { x.l.Width, x.l.Height = 5, 3 },
	}}
	fuel := check{e: api.ErrValue}
	for _, b := range wrongBounds(api.MaxFuel) {
		fuel.flaws = append(fuel.flaws, func(x *call) { x.l.Fuel[0] = b }, func(x *call) { x.l.Fuel[11] = b })
	}
	many := check{api.ErrCount, []flaw{func(x *call) { x.l.Walls = append(x.l.Walls, make([]api.Wall, 41)...) }}}
	return append([]check{value, count, fuel, many}, wallChecks()...)
}

func wallChecks() []check {
	with := func(e api.Errno, walls ...api.Wall) check {
		return check{e, []flaw{func(x *call) { x.l.Walls = slices.Concat(walls, x.l.Walls) }}}
	}
	return []check{
		with(api.ErrMissing, api.Wall{A: 11, B: 12}),
		with(api.ErrOrder, api.Wall{A: 3, B: 4}),
		with(api.ErrRepeat, api.Wall{A: 0, B: 1}, api.Wall{A: 1, B: 0}),
		with(api.ErrValue, api.Wall{A: 0, B: 4, Hold: 31}),
	}
}

func dayChecks() []check {
	value := check{e: api.ErrValue}
	for _, b := range wrongBounds(api.MaxDry) {
		value.flaws = append(value.flaws, func(x *call) { x.days[0].Dry = b })
	}
	for _, n := range outside(0, api.MaxBurn) {
		value.flaws = append(value.flaws, func(x *call) { x.days[0].Hours = n })
	}
	return []check{value, {api.ErrCount, []flaw{func(x *call) { x.days[0].Winds = winds() }}}}
}

func daysCheck() check {
	return check{api.ErrCount, []flaw{func(x *call) { x.days = append(x.days, make([]api.FireDay, 10)...) }}}
}

func windCheck() check {
	value := check{e: api.ErrValue}
	for _, w := range []api.Wind{-1, 1, 3, 4, 5, math.MinInt, math.MaxInt} {
		value.flaws = append(value.flaws, func(x *call) { x.wind = w })
	}
	return value
}

func cellChecks(list func(x *call) *[]int) []check {
	with := func(first ...int) flaw {
		return func(x *call) { l := list(x); *l = slices.Concat(first, *l) }
	}
	return []check{
		{api.ErrMissing, []flaw{with(-1), with(12), with(0, 12), with(math.MaxInt)}},
		{api.ErrOrder, []flaw{with(3, 3), with(3, 2), with(0, 1, 0)}},
	}
}

func fromChecks() []check { return cellChecks(func(x *call) *[]int { return &x.from }) }

func toChecks() []check { return cellChecks(func(x *call) *[]int { return &x.to }) }

func mayChecks() []check {
	return append(cellChecks(func(x *call) *[]int { return &x.may }), check{api.ErrCount, []flaw{
		func(x *call) { x.may = cells(0, 1, 2, 3, 4, 5, 6, 7, 8, 9, 10) },
		func(x *call) { x.may = cells(0, 1, 2, 3, 4, 5, 6, 7, 8, 9, 10, 11) },
	}})
}

func labelsCheck() check {
	return check{api.ErrCount, []flaw{
		func(x *call) { x.labels = nil },
		func(x *call) { x.labels = make([]int, 11) },
		func(x *call) { x.labels = make([]int, 13) },
	}}
}

func grazeChecks() []check {
	value, eaten := check{e: api.ErrValue}, check{e: api.ErrValue}
	for _, n := range outside(0, api.MaxGrazed) {
		value.flaws = append(value.flaws, func(x *call) { x.weeks = n })
	}
	for _, b := range wrongBounds(api.MaxFuel) {
		value.flaws = append(value.flaws, func(x *call) { x.grows = b })
		eaten.flaws = append(eaten.flaws, func(x *call) { x.eats[0] = b }, func(x *call) { x.eats[11] = b })
	}
	count := check{api.ErrCount, []flaw{
		func(x *call) { x.eats = nil },
		func(x *call) { x.eats = x.eats[:11] },
		func(x *call) { x.eats = append(x.eats, known(0)) },
	}}
	return []check{value, count, eaten}
}

func drynessChecks() []check {
	value, rain := check{e: api.ErrValue}, check{e: api.ErrValue}
	for _, b := range wrongBounds(api.MaxDry) {
		value.flaws = append(value.flaws, func(x *call) { x.start = b })
	}
	for _, b := range wrongBounds(api.MaxRain) {
		rain.flaws = append(rain.flaws, func(x *call) { x.rain[0] = b }, func(x *call) { x.rain[1] = b })
	}
	count := check{api.ErrCount, []flaw{func(x *call) { x.rain = append(x.rain, make([]api.Bounds, 59)...) }}}
	return []check{value, count, rain}
}

// ordered checks a function: each flaw has its error, and of two flaws the one of the earlier check decides.
func ordered(t *testing.T, name string, checks []check, ask func(x call) (zero bool, e api.Errno)) {
	t.Helper()
	if _, e := ask(exampleCall()); e != api.OK {
		t.Error(name, "without a flaw", e)
	}
	for i, first := range checks {
		for n, a := range first.flaws {
			x := exampleCall()
			a(&x)
			if zero, e := ask(x); !zero || e != first.e {
				t.Error(name, i, n, zero, e)
			}
			for j, later := range checks[i+1:] {
				for m, b := range later.flaws {
					x := exampleCall()
					b(&x)
					a(&x)
					if zero, e := ask(x); !zero || e != first.e {
						t.Error(name, i, n, "before", i+1+j, m, zero, e)
					}
				}
			}
		}
	}
}

// P3.1 to P3.5, P0.1: the errors of all functions, in their order, and zero values with them.
func TestErrors(t *testing.T) {
	land, day, several, wind, from, to := landChecks(), dayChecks(), []check{daysCheck()}, []check{windCheck()}, fromChecks(), toChecks()
	ordered(t, "CheckLand", land, func(x call) (bool, api.Errno) { return true, fire.CheckLand(x.l) })
	ordered(t, "CheckDay", day, func(x call) (bool, api.Errno) { return true, fire.CheckDay(x.days[0]) })
	ordered(t, "Burns", slices.Concat(land, day, from), func(x call) (bool, api.Errno) {
		v, h, e := fire.Burns(x.l, x.days[0], x.from)
		return v == nil && h == nil, e
	})
	ordered(t, "Crosses", slices.Concat(land, several, day, from, to), func(x call) (bool, api.Errno) {
		c, found, e := fire.Crosses(x.l, x.days, x.from, x.to)
		return sameCrossing(c, api.Crossing{}) && !found, e
	})
	ordered(t, "Labels", slices.Concat(land, day, wind, from), func(x call) (bool, api.Errno) {
		l, e := fire.Labels(x.l, x.days[0], x.wind, x.from)
		return l == nil, e
	})
	ordered(t, "Proves", slices.Concat(land, day, wind, from, []check{labelsCheck()}), func(x call) (bool, api.Errno) {
		is, e := fire.Proves(x.l, x.days[0], x.wind, x.from, x.labels)
		return !is, e
	})
	ordered(t, "Clear", slices.Concat(land, several, day, from, to, mayChecks()), func(x call) (bool, api.Errno) {
		l, found, e := fire.Clear(x.l, x.days, x.from, x.to, x.may)
		return l == nil && !found, e
	})
	ordered(t, "Graze", slices.Concat(land, grazeChecks()), func(x call) (bool, api.Errno) {
		l, e := fire.Graze(x.l, x.weeks, x.grows, x.eats)
		return sameLand(l, api.Land{}), e
	})
	ordered(t, "Dryness", drynessChecks(), func(x call) (bool, api.Errno) {
		l, e := fire.Dryness(x.start, x.rain)
		return l == nil, e
	})
	ordered(t, "Print", slices.Concat(land, several, day), func(x call) (bool, api.Errno) {
		s, e := fire.Print(x.l, x.days)
		return s == "", e
	})
}

// P0.1: whatever is asked, there is an answer, and no other result with an error.
func TestAnyArguments(t *testing.T) {
	r := rand.New(rand.NewSource(1))
	all := slices.Concat(landChecks(), []check{daysCheck()}, dayChecks(), []check{windCheck()}, fromChecks(), toChecks(), mayChecks(), []check{labelsCheck()}, grazeChecks(), drynessChecks())
	for range 10 * often {
		x := exampleCall()
		for _, c := range slices.Backward(all) {
			if r.Intn(20) == 0 {
				c.flaws[r.Intn(len(c.flaws))](&x)
			}
		}
		if v, h, e := fire.Burns(x.l, x.days[0], x.from); e != api.OK && (v != nil || h != nil) || e == api.OK && (len(v) != 12 || len(h) != 12) {
			t.Fatal(x, v, h, e)
		}
		if c, found, e := fire.Crosses(x.l, x.days, x.from, x.to); !found && !sameCrossing(c, api.Crossing{}) || found && e != api.OK {
			t.Fatal(x, c, found, e)
		}
		if l, e := fire.Labels(x.l, x.days[0], x.wind, x.from); e != api.OK && l != nil || e == api.OK && len(l) != 12 {
			t.Fatal(x, l, e)
		}
		if is, e := fire.Proves(x.l, x.days[0], x.wind, x.from, x.labels); is && e != api.OK {
			t.Fatal(x, is, e)
		}
		if l, found, e := fire.Clear(x.l, x.days, x.from, x.to, x.may); !found && l != nil || found && e != api.OK {
			t.Fatal(x, l, found, e)
		}
		if l, e := fire.Graze(x.l, x.weeks, x.grows, x.eats); e != api.OK && !sameLand(l, api.Land{}) {
			t.Fatal(x, l, e)
		}
		if l, e := fire.Dryness(x.start, x.rain); e != api.OK && l != nil || e == api.OK && len(l) != len(x.rain) {
			t.Fatal(x, l, e)
		}
	}
}
