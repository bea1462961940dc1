package ring_test

import (
	"math/rand"
	"slices"
	"testing"

	"sobreiro/api"
	"sobreiro/ring"
)

// P2.1
func TestKinds(t *testing.T) {
	noNext := func(c *api.Climate) { c.Next = [3][3]bool{} }
	for i, x := range []struct {
		c    api.Climate
		want []api.Kinds
		year int
		e    api.Errno
	}{
		{exampleClimate(), years("MW", "DMW", "DM"), 3, api.OK},
		{changed(func(c *api.Climate) { c.Dry = bounds(2, 2) }), years("MW", "D", "D"), 3, api.OK},
		{changed(func(c *api.Climate) { c.Dry = bounds(0, 0) }), years("MW", "MW", "M"), 3, api.OK},
		// After two wet years would come nothing.
		{changed(func(c *api.Climate) { c.Years[0], c.Years[2] = kinds("DMW"), kinds("W") }), years("DMW", "DM", "W"), 3, api.OK},
		// No years: the one course is the empty one, if it may be without a dry year.
		{api.Climate{}, nil, 0, api.OK},
		{api.Climate{Years: []api.Kinds{}, Dry: bounds(0, 30)}, nil, 0, api.OK},
		{api.Climate{Dry: bounds(1, 30)}, nil, 0, api.ErrAgainst},
		{changed(func(c *api.Climate) { noNext(c); c.Years, c.Dry = years("DW"), bounds(0, 1) }), years("DW"), 1, api.OK},
		// Nothing is possible in a year, can come in a year, or has few enough dry years.
		{changed(func(c *api.Climate) { c.Years[0] = kinds("") }), nil, 0, api.ErrAgainst},
		{changed(func(c *api.Climate) { c.Years[2] = kinds("") }), nil, 2, api.ErrAgainst},
		{changed(noNext), nil, 1, api.ErrAgainst},
		{changed(func(c *api.Climate) { c.Years[0], c.Years[1] = kinds("W"), kinds("W") }), nil, 1, api.ErrAgainst},
		{changed(func(c *api.Climate) { c.Years, c.Dry = years("D", "DM", "D", "D", "M"), bounds(0, 2) }), nil, 3, api.ErrAgainst},
		{changed(func(c *api.Climate) { c.Years, c.Dry = years("D", "M"), bounds(0, 0) }), nil, 0, api.ErrAgainst},
		// There are kinds for all years, but too few dry ones.
		{changed(func(c *api.Climate) { c.Dry = bounds(3, 30) }), nil, 3, api.ErrAgainst},
		{changed(func(c *api.Climate) { c.Years, c.Dry = years("MW"), bounds(1, 1) }), nil, 1, api.ErrAgainst},
	} {
		if l, n, e := ring.Kinds(x.c); !slices.Equal(l, x.want) || n != x.year || e != x.e {
			t.Error(i, l, n, e)
		}
	}
}

// P2.1: the kinds are those of the courses, counted out.
func TestKindsOfCourses(t *testing.T) {
	r := rand.New(rand.NewSource(1))
	for range often {
		c := someClimate(r, 6)
		courses := everyCourse(c)
		want, year, wanted := union(courses, len(c.Years)), len(c.Years), api.OK
		if len(courses) == 0 {
			want, year, wanted = nil, stuck(c), api.ErrAgainst
		}
		if l, n, e := ring.Kinds(c); !slices.Equal(l, want) || n != year || e != wanted {
			t.Fatal(c, l, n, e, want, year)
		}
	}
}

// stuck returns the first year up to which there are no kinds, counted out.
func stuck(c api.Climate) int {
	for n := range c.Years {
		upTo := c
		upTo.Years, upTo.Dry.Min = c.Years[:n+1], 0
		if len(everyCourse(upTo)) == 0 {
			return n
		}
	}
	return len(c.Years)
}

// P2.1: a climate of many years, of which no one counts out the courses.
func TestKindsOfManyYears(t *testing.T) {
	c := free(slices.Repeat([]string{"DMW"}, 30)...)
	if l, n, e := ring.Kinds(c); !slices.Equal(l, c.Years) || n != 30 || e != api.OK {
		t.Error(l, n, e)
	}
	c.Dry = bounds(30, 30)
	if l, n, e := ring.Kinds(c); !slices.Equal(l, years(slices.Repeat([]string{"D"}, 30)...)) || n != 30 || e != api.OK {
		t.Error(l, n, e)
	}
	// After a dry year none comes, so that every other year is dry, but in one place two others lie between.
	c.Next[dry][dry] = false
	c.Dry = bounds(15, 15)
	if l, n, e := ring.Kinds(c); l[0] != kinds("DMW") || l[29] != kinds("DMW") || n != 30 || e != api.OK {
		t.Error(l, n, e)
	}
	c.Dry = bounds(16, 30)
	if l, n, e := ring.Kinds(c); l != nil || n != 30 || e != api.ErrAgainst {
		t.Error(l, n, e)
	}
}
