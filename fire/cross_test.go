package fire_test

import (
	"math/rand"
	"slices"
	"testing"

	"sobreiro/api"
	"sobreiro/fire"
)

// P3.2: the examples, and which day, which wind and which path.
func TestCrosses(t *testing.T) {
	// Straight on there is little fuel: six cells in 6 hours, or four in 30.
	detour := api.Land{Width: 4, Height: 2, Slow: 11, Fuel: fuels(9, 1, 1, 9, 9, 9, 9, 9)}
	crossing := func(day int, wind api.Wind, hours int, path ...int) api.Crossing {
		return api.Crossing{Day: day, Wind: wind, Path: path, Hours: hours}
	}
	for i, x := range []struct {
		l        api.Land
		days     []api.FireDay
		from, to []int
		want     api.Crossing
	}{
		{exampleLand(), days(asItIs), cells(0), cells(5), crossing(0, calm, 7, 0, 1, 2, 5)},
		{exampleLand(), days(within6), cells(0), cells(5), crossing(0, east, 4, 0, 1, 2, 5)},
		// Winds: the least one; days: the first one.
		{exampleLand(), days(withWinds(east, calm)), cells(0), cells(5), crossing(0, calm, 7, 0, 1, 2, 5)},
		{exampleLand(), days(withWinds(west), withWinds(east), asItIs), cells(0), cells(5), crossing(1, east, 4, 0, 1, 2, 5)},
		{exampleLand(), days(within6, asItIs), cells(0), cells(5), crossing(0, east, 4, 0, 1, 2, 5)},
		{exampleLand(), days(func(d *api.FireDay) { d.Hours = 3 }, asItIs), cells(0), cells(5), crossing(1, calm, 7, 0, 1, 2, 5)},
		// Where fire begins it has crossed.
		{exampleLand(), days(func(d *api.FireDay) { d.Hours = 0 }), cells(2, 4), cells(1, 2, 4), crossing(0, calm, 0, 2)},
		{exampleLand(), days(asItIs), cells(0, 2), cells(0, 1, 2), crossing(0, calm, 0, 0)},
		// The nearest of several cells, not the earliest one; of several beginnings the one that is nearest.
		{exampleLand(), days(asItIs), cells(0), cells(2, 3), crossing(0, calm, 2, 0, 3)},
		{exampleLand(), days(asItIs), cells(0, 2), cells(5), crossing(0, calm, 2, 2, 5)},
		{exampleLand(), days(asItIs), cells(1, 5), cells(4), crossing(0, calm, 2, 1, 4)},
		// The least of the paths with the fewest cells, though another one is faster.
		{flat(3, 3, 5), days(asItIs), cells(0), cells(8), crossing(0, calm, 4, 0, 1, 2, 5, 8)},
		{flat(3, 3, 5), days(asItIs), cells(8), cells(0), crossing(0, calm, 4, 8, 5, 2, 1, 0)},
		{flat(3, 3, 5), days(asItIs), cells(2), cells(6), crossing(0, calm, 4, 2, 1, 0, 3, 6)},
		{detour, []api.FireDay{day(0, 0, 50, calm)}, cells(0), cells(3), crossing(0, calm, 22, 0, 1, 2, 3)},
		{detour, []api.FireDay{day(0, 0, 22, calm)}, cells(0), cells(3), crossing(0, calm, 22, 0, 1, 2, 3)},
		// What takes too long is not a path, even if it has fewer cells.
		{detour, []api.FireDay{day(0, 0, 21, calm)}, cells(0), cells(3), crossing(0, calm, 18, 0, 1, 5, 6, 7, 3)},
		{detour, []api.FireDay{day(0, 0, 17, calm)}, cells(0), cells(3), crossing(0, calm, 10, 0, 4, 5, 6, 7, 3)},
		{detour, []api.FireDay{day(0, 0, 10, calm)}, cells(0), cells(3), crossing(0, calm, 10, 0, 4, 5, 6, 7, 3)},
		// A slow beginning leaves too little time for what comes first otherwise.
		{api.Land{Width: 3, Height: 2, Slow: 11, Fuel: fuels(9, 1, 9, 9, 9, 9)}, []api.FireDay{day(0, 0, 14, calm)}, cells(0), cells(5), crossing(0, calm, 14, 0, 1, 2, 5)},
		{api.Land{Width: 3, Height: 2, Slow: 11, Fuel: fuels(9, 1, 9, 9, 9, 9)}, []api.FireDay{day(0, 0, 13, calm)}, cells(0), cells(5), crossing(0, calm, 6, 0, 3, 4, 5)},
	} {
		if c, found, e := fire.Crosses(x.l, x.days, x.from, x.to); !sameCrossing(c, x.want) || !found || e != api.OK {
			t.Error(i, c, found, e)
		}
	}
}

// P3.2: where nothing crosses.
func TestCrossesNot(t *testing.T) {
	for i, x := range []struct {
		days     []api.FireDay
		from, to []int
	}{
		{nil, cells(0), cells(0)},
		{days(asItIs), nil, cells(5)},
		{days(asItIs), cells(0), nil},
		{days(asItIs), nil, nil},
		{days(func(d *api.FireDay) { d.Hours = 3 }), cells(0), cells(5)},
		{days(withWinds(west)), cells(0), cells(5)},
	} {
		if c, found, e := fire.Crosses(exampleLand(), x.days, x.from, x.to); !sameCrossing(c, api.Crossing{}) || found || e != api.OK {
			t.Error(i, c, found, e)
		}
	}
	bare := flat(2, 1, 9)
	bare.Fuel[0] = known(0)
	for _, l := range [][]int{cells(0), cells(1)} {
		if c, found, e := fire.Crosses(bare, days(asItIs), cells(0), l); !sameCrossing(c, api.Crossing{}) || found || e != api.OK {
			t.Error(l, c, found, e)
		}
	}
}

// wanted returns the crossing that the document asks for, found among all paths of all days.
func wanted(l api.Land, days []api.FireDay, from, to []int) (c api.Crossing, found bool) {
	for i, d := range days {
		for w := range d.Winds {
			if !d.Winds[w] {
				continue
			}
			for path, hours := range hottest(l, d, api.Wind(w)).paths(d, from) {
				ends := slices.Contains(to, path[len(path)-1])
				if ends && (!found || len(path) < len(c.Path) || len(path) == len(c.Path) && slices.Compare(path, c.Path) < 0) {
					c, found = api.Crossing{Day: i, Wind: api.Wind(w), Path: path, Hours: hours}, true
				}
			}
			if found {
				return c, true
			}
		}
	}
	return c, false
}

// P3.2, P0.3: the crossing is the best of all paths, and there is one if there is one in any case.
func TestCrossesOfPaths(t *testing.T) {
	r := rand.New(rand.NewSource(3))
	many := 0
	for range 3 * often {
		l, days := someLand(r, 4, 2), someDays(r, 3)
		l.Limit, l.Slow = r.Intn(8), 1+r.Intn(8)
		from, to := someCells(r, l, 8), someCells(r, l, 8)
		want, crossed := wanted(l, days, from, to)
		c, found, e := fire.Crosses(l, days, from, to)
		if !sameCrossing(c, want) || found != crossed || found != crosses(l, days, from, to) || e != api.OK {
			t.Fatal(l, days, from, to, c, found, e, want)
		}
		if found && len(c.Path) > 3 {
			many++
		}
	}
	if many < often/20 {
		t.Error("too few long crossings", many)
	}
}

// P3.2: on lands where hours matter, so that slow paths of few cells lose to fast ones of many cells.
func TestCrossesInTime(t *testing.T) {
	r := rand.New(rand.NewSource(4))
	late := 0
	for range 3 * often {
		l := flat(3+r.Intn(2), 3, 0)
		for c := range l.Fuel {
			l.Fuel[c] = known([]int{1, 9, 9, 1 + r.Intn(9)}[r.Intn(4)])
		}
		l.Slow = 10
		d := day(0, 0, 0, calm)
		from, to := cells(0), cells(len(l.Fuel)-1-r.Intn(3))
		d.Hours = hottest(l, d, calm).hours(api.FireDay{Hours: 200}, from)[to[0]] + r.Intn(6)
		want, crossed := wanted(l, []api.FireDay{d}, from, to)
		if c, found, e := fire.Crosses(l, []api.FireDay{d}, from, to); !sameCrossing(c, want) || !found || !crossed || e != api.OK {
			t.Fatal(l, d, to, c, found, e, want)
		}
		d.Hours = 200
		if c, _, _ := fire.Crosses(l, []api.FireDay{d}, from, to); len(c.Path) < len(want.Path) {
			late++
		}
	}
	if late < often/20 {
		t.Error("too few crossings where fewer cells take too long", late)
	}
}

// P3.7: a fire crosses on a day exactly if for some possible wind its labels reach a cell.
func TestCrossesAsLabelled(t *testing.T) {
	r := rand.New(rand.NewSource(5))
	for range 10 * often {
		l, d := someLand(r, 8, 20), someDay(r)
		from, to := someCells(r, l, 6), someCells(r, l, 9)
		reached := false
		for w, possible := range d.Winds {
			if possible {
				labels, e := fire.Labels(l, d, api.Wind(w), from)
				reached = reached || slices.ContainsFunc(to, func(c int) bool { return labels[c] >= 0 })
				if e != api.OK {
					t.Fatal(l, d, w, from, e)
				}
			}
		}
		c, found, e := fire.Crosses(l, []api.FireDay{d}, from, to)
		if found != reached || e != api.OK {
			t.Fatal(l, d, from, to, c, found, e)
		}
		if !found {
			continue
		}
		hours, s := 0, hottest(l, d, c.Wind)
		for i, cell := range c.Path[1:] {
			h := s.pass(c.Path[i], cell)
			if hours += h; h == 0 {
				t.Fatal(l, d, from, to, c)
			}
		}
		if hours != c.Hours || hours > d.Hours || !slices.Contains(from, c.Path[0]) || !slices.Contains(to, c.Path[len(c.Path)-1]) {
			t.Fatal(l, d, from, to, c)
		}
	}
}
