package tree_test

import (
	"math"
	"math/big"
	"math/rand"
	"slices"
	"testing"

	"sobreiro/api"
	"sobreiro/tree"
)

// unreadable returns so many digits that cannot be read.
func unreadable(n int) []int { return slices.Repeat([]int{-1}, n) }

// P1.5: what the chapter shows, edges and errors.
func TestDates(t *testing.T) {
	for i, x := range []struct {
		rest   int
		digits []int
		years  api.Bounds
		want   []api.Bounds
		ways   int
		e      api.Errno
	}{
		{9, []int{2, -1}, bounds(40, 55), []api.Bounds{bounds(42, 42), bounds(51, 55)}, 5, api.OK},
		{9, []int{2, 1}, bounds(40, 70), []api.Bounds{bounds(42, 52), bounds(51, 61)}, 3, api.OK},
		{10, []int{2, 2}, bounds(42, 52), []api.Bounds{bounds(42, 42), bounds(52, 52)}, 1, api.OK},
		{11, []int{2, 2}, bounds(42, 52), nil, 0, api.ErrAgainst},
		{9, nil, bounds(43, 60), nil, 1, api.OK},
		{9, []int{}, bounds(0, 0), nil, 1, api.OK},
		{1, []int{0}, bounds(0, 0), []api.Bounds{bounds(0, 0)}, 1, api.OK},
		{1, []int{1}, bounds(0, 0), nil, 0, api.ErrAgainst},
		{30, []int{-1}, bounds(0, 300), []api.Bounds{bounds(0, 300)}, 301, api.OK},
		{30, []int{9}, bounds(0, 300), []api.Bounds{bounds(9, 299)}, 30, api.OK},
		{30, []int{0}, bounds(300, 300), []api.Bounds{bounds(300, 300)}, 1, api.OK},
		{30, unreadable(10), bounds(0, 269), nil, 0, api.ErrAgainst},
		{1, []int{-1, 0, -1}, bounds(5, 25), []api.Bounds{bounds(5, 19), bounds(10, 20), bounds(11, 25)}, 5*15 + 15*5, api.OK},
		{0, []int{10}, bounds(60, 0), nil, 0, api.ErrValue},
		{31, nil, bounds(0, 60), nil, 0, api.ErrValue},
		{math.MinInt, nil, bounds(0, 60), nil, 0, api.ErrValue},
		{math.MaxInt, nil, bounds(0, 60), nil, 0, api.ErrValue},
		{9, make([]int, 11), bounds(60, 59), nil, 0, api.ErrValue},
		{9, make([]int, 11), bounds(-1, 59), nil, 0, api.ErrValue},
		{9, nil, bounds(0, 301), nil, 0, api.ErrValue},
		{9, nil, bounds(math.MinInt, math.MaxInt), nil, 0, api.ErrValue},
		{9, slices.Repeat([]int{10}, 11), bounds(0, 300), nil, 0, api.ErrCount},
		{9, make([]int, 60000), bounds(0, 300), nil, 0, api.ErrCount},
		{9, []int{1, 10}, bounds(0, 0), nil, 0, api.ErrValue},
		{9, []int{1, -2}, bounds(0, 300), nil, 0, api.ErrValue},
		{9, []int{math.MaxInt}, bounds(0, 300), nil, 0, api.ErrValue},
	} {
		if l, n, e := tree.Dates(x.rest, x.digits, x.years); !slices.Equal(l, x.want) || n != x.ways || e != x.e {
			t.Error(i, l, n, e)
		}
	}
}

// P1.5: the greatest numbers of rows are counted exactly.
func TestDatesManyRows(t *testing.T) {
	for _, rest := range []int{1, 2, 9, 30} {
		free := int64(api.MaxYear + 1 - 9*(rest-1)) // years, without those of the rests
		want := new(big.Int).Binomial(free, 10)
		l, n, e := tree.Dates(rest, unreadable(10), bounds(0, api.MaxYear))
		if e != api.OK || !want.IsInt64() || int64(n) != want.Int64() {
			t.Error(rest, n, want, e)
		}
		for i, b := range l {
			if b != bounds(i*rest, api.MaxYear-(9-i)*rest) {
				t.Error(rest, i, b)
			}
		}
	}
}

// rows calls found with each row of years that fits.
func rows(rest int, digits []int, years api.Bounds, row []int, found func([]int)) {
	i := len(row)
	if i == len(digits) {
		found(row)
		return
	}
	for y := years.Min; y <= years.Max; y++ {
		if (digits[i] == -1 || y%10 == digits[i]) && (i == 0 || y-row[i-1] >= rest) {
			rows(rest, digits, years, append(row, y), found)
		}
	}
}

// P1.5, P1.8: the years are those of all rows that fit, so that those that were painted are among them.
func TestDatesAllRows(t *testing.T) {
	r := rand.New(rand.NewSource(21))
	against := 0
	for range 1500 {
		rest, from := 1+r.Intn(14), r.Intn(200)
		years := within(r, from, from+45)
		digits := unreadable(r.Intn(5))
		for i := range digits {
			if r.Intn(4) > 0 {
				digits[i] = r.Intn(10)
			}
		}
		var want []api.Bounds
		ways := 0
		rows(rest, digits, years, nil, func(row []int) {
			ways++
			if ways == 1 {
				for _, y := range row {
					want = append(want, bounds(y, y))
				}
			}
			for i, y := range row {
				want[i] = bounds(min(want[i].Min, y), max(want[i].Max, y))
			}
		})
		wanted := api.OK
		if ways == 0 {
			wanted = api.ErrAgainst
			against++
		}
		painted := slices.Clone(digits)
		if l, n, e := tree.Dates(rest, digits, years); !slices.Equal(l, want) || n != ways || e != wanted {
			t.Fatal(rest, digits, years, l, n, e, want, ways)
		}
		if !slices.Equal(digits, painted) {
			t.Fatal("the digits were changed")
		}
	}
	if against == 0 || against > 1200 {
		t.Error(against)
	}
}
