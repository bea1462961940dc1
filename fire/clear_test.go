package fire_test

import (
	"math/rand"
	"slices"
	"testing"

	"sobreiro/api"
	"sobreiro/fire"
)

// P3.4
func TestClear(t *testing.T) {
	field := flat(3, 3, 5)
	always := days(asItIs)
	for i, x := range []struct {
		l             api.Land
		days          []api.FireDay
		from, to, may []int
		want          []int
		found         bool
	}{
		{exampleLand(), always, cells(0), cells(5), cells(1, 2, 3, 4), cells(1, 3), true},
		{exampleLand(), always, cells(0), cells(5), cells(2, 3, 4), cells(2, 4), true},
		{exampleLand(), always, cells(0), cells(5), cells(2, 3), nil, false},
		{exampleLand(), always, cells(0), cells(5), nil, nil, false},
		// One cell is fewer than two, though they come first.
		{exampleLand(), always, cells(0), cells(5), cells(2, 4, 5), cells(5), true},
		{exampleLand(), always, cells(0), cells(5), cells(0, 1, 2, 3, 4, 5), cells(0), true},
		{field, always, cells(0), cells(8), cells(1, 2, 3, 4, 5, 6, 7), cells(1, 3), true},
		{field, always, cells(0), cells(8), cells(2, 4, 5, 6, 7), cells(5, 7), true},
		{field, always, cells(0), cells(8), cells(2, 4, 5, 6), cells(2, 4, 6), true},
		{field, always, cells(0), cells(8), cells(2, 4, 7), cells(2, 4, 7), true},
		{field, always, cells(0, 4), cells(4, 8), cells(0, 3, 4, 8), cells(0, 4), true},
		{field, always, cells(0, 4), cells(4, 8), cells(3, 4, 8), cells(4, 8), true},
		{field, always, cells(0, 4), cells(4, 8), cells(0, 1, 2, 3, 5, 6, 7, 8), nil, false},
		// Nothing crosses: nothing is cleared.
		{exampleLand(), nil, cells(0), cells(5), cells(1, 2), nil, true},
		{exampleLand(), always, nil, cells(5), cells(1, 2), nil, true},
		{exampleLand(), always, cells(0), nil, nil, nil, true},
		{exampleLand(), days(withWinds(west)), cells(0), cells(5), cells(1), nil, true},
		// All days and winds count, even where one cell is enough for each of them.
		{row(9, 1, known(5), known(5), known(5)), []api.FireDay{day(2, 2, 9, east, west)}, cells(1), cells(0, 2), cells(0, 2), cells(0, 2), true},
		{row(9, 1, known(5), known(5), known(5)), []api.FireDay{day(2, 2, 9, east), day(2, 2, 9, west)}, cells(1), cells(0, 2), cells(0, 2), cells(0, 2), true},
		{row(9, 1, known(5), known(5), known(5)), []api.FireDay{day(2, 2, 9, east)}, cells(1), cells(0, 2), cells(0, 2), cells(2), true},
		// What may burn counts, and what is cleared has no fuel, whatever was known.
		{row(9, 1, known(5), bounds(0, 5), bounds(0, 5)), []api.FireDay{day(0, 4, 9, calm)}, cells(0), cells(2), cells(1), cells(1), true},
		// Ten cells may be cleared.
		{flat(8, 8, 5), days(func(d *api.FireDay) { d.Hours = 14 }), cells(0), cells(63), cells(5, 12, 19, 26, 33, 40, 50, 51, 55, 62), cells(55, 62), true},
		{flat(8, 8, 5), days(func(d *api.FireDay) { d.Hours = 200 }), cells(0), cells(63), cells(4, 7, 14, 21, 28, 35, 42, 49, 56, 60), cells(7, 14, 21, 28, 35, 42, 49, 56), true},
	} {
		if l, found, e := fire.Clear(x.l, x.days, x.from, x.to, x.may); !slices.Equal(l, x.want) || found != x.found || e != api.OK {
			t.Error(i, l, found, e)
		}
	}
}

// bestCleared returns the list that the document asks for, found among all lists.
func bestCleared(l api.Land, days []api.FireDay, from, to, may []int) (best []int, found bool) {
	holds := func(land api.Land) bool {
		for _, d := range days {
			for w, possible := range d.Winds {
				if possible && hottest(land, d, api.Wind(w)).burns(d, from, to) {
					return false
				}
			}
		}
		return true
	}
	for set := range 1 << len(may) {
		var some []int
		for i, c := range may {
			if set>>i&1 == 1 {
				some = append(some, c)
			}
		}
		better := !found || len(some) < len(best) || len(some) == len(best) && slices.Compare(some, best) < 0
		if better && holds(cleared(l, some)) {
			best, found = some, true
		}
	}
	return best, found
}

// P3.4, P3.8, P0.3: the list is the best of all; nothing crosses after it, and something does without any one of its cells.
func TestClearOfLists(t *testing.T) {
	r := rand.New(rand.NewSource(8))
	lengths := map[int]int{}
	for range often {
		l, days := someLand(r, 4, 2), someDays(r, 3)
		l.Limit = r.Intn(8)
		from, to, may := someCells(r, l, 6), someCells(r, l, 6), someCells(r, l, 3)
		may = may[:min(len(may), 6)]
		want, can := bestCleared(l, days, from, to, may)
		got, found, e := fire.Clear(l, days, from, to, may)
		if !slices.Equal(got, want) || found != can || e != api.OK {
			t.Fatal(l, days, from, to, may, got, found, e, want)
		}
		if !found {
			lengths[-1]++
			continue
		}
		lengths[len(got)]++
		if crosses(cleared(l, got), days, from, to) {
			t.Fatal(l, days, from, to, may, got)
		}
		for i := range got {
			if some := slices.Delete(slices.Clone(got), i, i+1); !crosses(cleared(l, some), days, from, to) {
				t.Fatal(l, days, from, to, may, got, some)
			}
		}
	}
	if lengths[-1] < 20 || lengths[0] < 20 || lengths[1] < 20 || lengths[2] < 5 {
		t.Error("too few of a length", lengths)
	}
}

// P0.1: the most that can be asked is answered soon.
func TestClearTheMost(t *testing.T) {
	l := flat(8, 8, 9)
	all := days(slices.Repeat([]func(*api.FireDay){withWinds(calm, north, east, south, west)}, 10)...)
	for i := range all {
		all[i].Hours = 7
	}
	all[9].Hours = 200
	// Each of ten cells burns on the last day, but only the first of them on the days before.
	ten := cells(7, 22, 31, 36, 45, 47, 50, 59, 61, 63)
	if got, found, e := fire.Clear(l, all, cells(0), ten, ten); !slices.Equal(got, ten) || !found || e != api.OK {
		t.Error(got, found, e)
	}
	if got, found, e := fire.Clear(l, all, cells(0), ten, ten[1:]); got != nil || found || e != api.OK {
		t.Error(got, found, e)
	}
}

// P3.4
func TestGraze(t *testing.T) {
	l := exampleLand()
	l.Fuel = []api.Bounds{known(0), bounds(2, 3), known(4), bounds(0, 9), known(9), bounds(8, 9)}
	eats := func(b ...api.Bounds) []api.Bounds { return append(b, slices.Repeat(b[len(b)-1:], 6-len(b))...) }
	for i, x := range []struct {
		weeks int
		grows api.Bounds
		eats  []api.Bounds
		want  []api.Bounds
	}{
		{0, bounds(9, 9), eats(known(0)), l.Fuel},
		{1, known(0), eats(known(0)), l.Fuel},
		{60, known(0), eats(known(0)), l.Fuel},
		{1, known(1), eats(known(0)), []api.Bounds{known(1), bounds(3, 4), known(5), bounds(1, 9), known(9), known(9)}},
		{1, known(0), eats(known(1)), []api.Bounds{known(0), bounds(1, 2), known(3), bounds(0, 8), known(8), bounds(7, 8)}},
		{1, bounds(0, 2), eats(bounds(1, 3)), []api.Bounds{bounds(0, 1), bounds(0, 4), bounds(1, 5), bounds(0, 9), bounds(6, 9), bounds(5, 9)}},
		{2, bounds(0, 2), eats(bounds(1, 3)), []api.Bounds{bounds(0, 2), bounds(0, 5), bounds(0, 6), bounds(0, 9), bounds(3, 9), bounds(2, 9)}},
		{60, bounds(0, 2), eats(bounds(1, 3)), eats(bounds(0, 9))},
		{60, bounds(3, 4), eats(bounds(3, 4)), []api.Bounds{bounds(0, 9), bounds(0, 9), bounds(0, 9), bounds(0, 9), bounds(0, 9), bounds(0, 9)}},
		// Each cell is eaten of on its own.
		{1, known(2), eats(known(1), known(9), known(2), bounds(0, 9), known(5), known(0)), []api.Bounds{known(1), known(0), known(4), bounds(0, 9), known(6), known(9)}},
		{2, known(0), eats(known(9)), eats(known(0))},
		{2, known(9), eats(known(0)), eats(known(9))},
		// What is beyond the greatest fuel is lost each week, and so is what is below 0.
		{2, known(9), eats(known(3)), []api.Bounds{known(9), known(9), known(9), bounds(9, 9), known(9), known(9)}},
		{2, known(3), eats(known(9)), eats(known(0))},
	} {
		got, e := fire.Graze(l, x.weeks, x.grows, x.eats)
		want := l
		want.Fuel = x.want
		if !sameLand(got, want) || e != api.OK {
			t.Error(i, got, e)
		}
	}
}

// P3.8, P0.2: whatever really grows and is eaten, the fuel is within the bounds, and both ends are reached.
func TestGrazeReally(t *testing.T) {
	r := rand.New(rand.NewSource(9))
	for range often {
		l, weeks, grows := flat(1+r.Intn(3), 1, 0), r.Intn(3), within(r, 0, 3)
		eats := make([]api.Bounds, l.Width)
		for c := range eats {
			l.Fuel[c], eats[c] = within(r, 0, 9), within(r, 0, 4)
		}
		got, e := fire.Graze(l, weeks, grows, eats)
		if e != api.OK {
			t.Fatal(l, weeks, grows, eats, e)
		}
		for c := range eats {
			if fuel := grazed(l.Fuel[c], weeks, grows, eats[c]); fuel != got.Fuel[c] {
				t.Fatal(l, weeks, grows, eats, c, got, fuel)
			}
		}
	}
}

// grazed counts out the fuels that a cell can have after weeks, and returns their bounds.
func grazed(fuel api.Bounds, weeks int, grows, eats api.Bounds) api.Bounds {
	can := map[int]bool{}
	for n := fuel.Min; n <= fuel.Max; n++ {
		can[n] = true
	}
	for range weeks {
		next := map[int]bool{}
		for n := range can {
			for g := grows.Min; g <= grows.Max; g++ {
				for a := eats.Min; a <= eats.Max; a++ {
					next[min(9, max(0, n+g-a))] = true
				}
			}
		}
		can = next
	}
	return boundsOf(can)
}

func boundsOf(can map[int]bool) api.Bounds {
	b := bounds(1000, -1000)
	for n := range can {
		b = bounds(min(b.Min, n), max(b.Max, n))
	}
	return b
}
