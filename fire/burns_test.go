package fire_test

import (
	"math/rand"
	"slices"
	"testing"

	"sobreiro/api"
	"sobreiro/fire"
)

// P3.1: the example.
func TestBurnsExample(t *testing.T) {
	v, h, e := fire.Burns(exampleLand(), exampleDay(), cells(0))
	if !slices.Equal(v, []api.Verdict{always, unknown, unknown, always, unknown, unknown}) || !slices.Equal(h, cells(0, 1, 2, 2, 3, 4)) || e != api.OK {
		t.Error(v, h, e)
	}
}

// row is land of one row, with bounds of fuels.
func row(limit, slow int, fuel ...api.Bounds) api.Land {
	return api.Land{Width: len(fuel), Height: 1, Limit: limit, Slow: slow, Fuel: fuel}
}

func day(low, high, hours int, l ...api.Wind) api.FireDay {
	return api.FireDay{Dry: bounds(low, high), Winds: winds(l...), Hours: hours}
}

// P3.1
func TestBurns(t *testing.T) {
	three := row(5, 8, known(3), known(3), known(3))
	column := three
	column.Width, column.Height = 1, 3
	held := func(hold int) api.Land {
		l := three
		l.Walls = []api.Wall{{A: 2, B: 1, Hold: hold}}
		return l
	}
	for i, x := range []struct {
		l        api.Land
		d        api.FireDay
		from     []int
		verdicts []api.Verdict
		hours    []int
	}{
		{three, day(2, 2, 6, calm), cells(0), []api.Verdict{always, always, always}, cells(0, 3, 6)},
		{three, day(2, 2, 6, calm), nil, []api.Verdict{never, never, never}, cells(-1, -1, -1)},
		{three, day(2, 2, 6, calm), cells(0, 1, 2), []api.Verdict{always, always, always}, cells(0, 0, 0)},
		{three, day(2, 2, 6, calm), cells(0, 2), []api.Verdict{always, always, always}, cells(0, 3, 0)},
		// The hours of the day are included, none is exceeded.
		{three, day(2, 2, 5, calm), cells(0), []api.Verdict{always, always, never}, cells(0, 3, -1)},
		{three, day(2, 2, 0, calm), cells(0), []api.Verdict{always, never, never}, cells(0, -1, -1)},
		{three, day(2, 3, 5, calm), cells(0), []api.Verdict{always, always, unknown}, cells(0, 2, 4)},
		// The strength is at least Limit.
		{three, day(1, 2, 200, calm), cells(0), []api.Verdict{always, unknown, unknown}, cells(0, 3, 6)},
		{three, day(1, 1, 200, calm), cells(0), []api.Verdict{always, never, never}, cells(0, -1, -1)},
		// With the wind, against it, across it.
		{three, day(0, 0, 200, east), cells(1), []api.Verdict{never, always, always}, cells(-1, 0, 3)},
		{three, day(0, 0, 200, west), cells(1), []api.Verdict{always, always, never}, cells(3, 0, -1)},
		{three, day(3, 3, 200, east), cells(1), []api.Verdict{never, always, always}, cells(-1, 0, 1)},
		{three, day(4, 4, 200, east), cells(1), []api.Verdict{always, always, always}, cells(3, 0, 1)},
		{three, day(2, 2, 200, north), cells(1), []api.Verdict{always, always, always}, cells(3, 0, 3)},
		{column, day(0, 0, 200, north), cells(1), []api.Verdict{always, always, never}, cells(3, 0, -1)},
		{column, day(0, 0, 200, south), cells(1), []api.Verdict{never, always, always}, cells(-1, 0, 3)},
		{column, day(2, 2, 200, west), cells(1), []api.Verdict{always, always, always}, cells(3, 0, 3)},
		// In each of two winds one cell does not burn; in none of three all of it is sure.
		{three, day(0, 0, 200, east, west), cells(1), []api.Verdict{unknown, always, unknown}, cells(3, 0, 3)},
		{three, day(2, 2, 200, calm, east), cells(1), []api.Verdict{unknown, always, always}, cells(3, 0, 1)},
		// A step takes at least an hour.
		{row(0, 1, known(9), known(9), known(1)), day(9, 9, 2, east), cells(0), []api.Verdict{always, always, always}, cells(0, 1, 2)},
		{row(0, 60, known(9), known(1), known(1)), day(0, 0, 200, calm), cells(0), []api.Verdict{always, always, always}, cells(0, 59, 118)},
		// Without fuel nothing burns, even where it begins and with a Limit of 0.
		{row(0, 1, known(0), known(9), known(0)), day(9, 9, 9, calm), cells(0), []api.Verdict{never, never, never}, cells(-1, -1, -1)},
		{row(0, 1, known(0), known(9), known(0)), day(9, 9, 9, calm), cells(1), []api.Verdict{never, always, never}, cells(-1, 0, -1)},
		{row(0, 1, bounds(0, 1), bounds(0, 9), bounds(1, 1)), day(0, 0, 9, calm), cells(0), []api.Verdict{unknown, unknown, unknown}, cells(0, 1, 2)},
		// A strength below 0 is not at least 0.
		{row(0, 60, known(1), known(1)), day(0, 0, 200, west), cells(0), []api.Verdict{always, never}, cells(0, -1)},
		{row(0, 60, known(1), known(2)), day(0, 0, 200, west), cells(0), []api.Verdict{always, always}, cells(0, 60)},
		// A wall holds a fire whose strength is less than its Hold, from both sides.
		{held(6), day(2, 2, 200, calm), cells(0), []api.Verdict{always, always, never}, cells(0, 3, -1)},
		{held(6), day(2, 2, 200, calm), cells(2), []api.Verdict{never, never, always}, cells(-1, -1, 0)},
		{held(5), day(2, 2, 200, calm), cells(0), []api.Verdict{always, always, always}, cells(0, 3, 6)},
		{held(0), day(1, 1, 200, calm), cells(0), []api.Verdict{always, never, never}, cells(0, -1, -1)},
		{held(6), day(2, 3, 200, calm), cells(0), []api.Verdict{always, always, unknown}, cells(0, 2, 4)},
		// The fastest path is not the shortest one.
		{api.Land{Width: 3, Height: 2, Slow: 12, Fuel: fuels(9, 1, 9, 9, 9, 9)}, day(0, 0, 50, calm), cells(0), []api.Verdict{always, always, always, always, always, always}, cells(0, 11, 12, 3, 6, 9)},
		// The end of a row is not beside the beginning of the next one.
		{api.Land{Width: 3, Height: 2, Slow: 1, Fuel: fuels(0, 9, 9, 9, 0, 0)}, day(9, 9, 50, calm), cells(2), []api.Verdict{never, always, always, never, never, never}, cells(-1, 1, 0, -1, -1, -1)},
		{flat(1, 1, 9), day(9, 9, 0, calm), cells(0), []api.Verdict{always}, cells(0)},
	} {
		if v, h, e := fire.Burns(x.l, x.d, x.from); !slices.Equal(v, x.verdicts) || !slices.Equal(h, x.hours) || e != api.OK {
			t.Error(i, v, h, e)
		}
	}
}

// P3.1, P3.6: the verdicts and the hours are those of all cases, counted out.
func TestBurnsOfCases(t *testing.T) {
	r := rand.New(rand.NewSource(2))
	counts := map[api.Verdict]int{}
	for range often {
		l, d := someLand(r, 4, 4), someDay(r)
		from := someCells(r, l, 5)
		surely := slices.Repeat([]bool{true}, len(l.Fuel))
		earliest := slices.Repeat(cells(-1), len(l.Fuel))
		for s := range situations(l, d) {
			for c, h := range s.hours(d, from) {
				surely[c] = surely[c] && h >= 0
				if h >= 0 && (earliest[c] < 0 || h < earliest[c]) {
					earliest[c] = h
				}
			}
		}
		v, h, e := fire.Burns(l, d, from)
		if !slices.Equal(h, earliest) || len(v) != len(l.Fuel) || e != api.OK {
			t.Fatal(l, d, from, v, h, e, earliest)
		}
		for c := range v {
			want := unknown
			if surely[c] {
				want = always
			} else if earliest[c] < 0 {
				want = never
			}
			if counts[want]++; v[c] != want {
				t.Fatal(l, d, from, c, v, surely, earliest)
			}
		}
	}
	if counts[always] < often || counts[never] < often || counts[unknown] < often/2 {
		t.Error("too few of a verdict", counts)
	}
}
