package ring_test

import (
	"math/rand"
	"slices"
	"testing"

	"sobreiro/api"
	"sobreiro/ring"
)

// P2.3
func TestCut(t *testing.T) {
	some := bounds(0, api.MaxThick)
	for i, x := range []struct {
		rings    int
		measured []api.Bounds
		want     []api.Kinds
	}{
		{0, rings(bounds(300, 310)), years("W", "DM", "DM")},
		{0, nil, years("MW", "DMW", "DM")},
		{0, []api.Bounds{}, years("MW", "DMW", "DM")},
		{0, rings(some, some, some), years("MW", "DMW", "DM")},
		// A ring of 240 is that of a mean year at most, or of a wet one at least; the site's first factor is 800.
		{0, rings(bounds(240, 240)), years("MW", "DMW", "DM")},
		{0, rings(bounds(0, 239)), years("M", "DMW", "DM")},
		{0, rings(bounds(241, api.MaxThick)), years("W", "DM", "DM")},
		{0, rings(bounds(0, 160)), years("M", "DMW", "DM")},
		{0, rings(bounds(320, 320)), years("W", "DM", "DM")},
		{1, rings(bounds(240, 240)), years("M", "DMW", "DM")},
		{30, rings(bounds(401, 401)), years("W", "DM", "DM")},
		// What is measured later tells of the years before and after it.
		{0, rings(some, bounds(301, 401)), years("M", "W", "D")},
		{0, rings(some, bounds(200, 299)), years("MW", "M", "D")},
		{0, rings(some, some, bounds(151, 300)), years("MW", "D", "M")},
		{0, rings(some, some, bounds(0, 150)), years("MW", "DMW", "D")},
	} {
		c := exampleClimate()
		c.Years = x.want
		o, n, e := ring.Cut(exampleSite(), exampleClimate(), x.rings, x.measured)
		if !sameClimate(o, c) || n != 3 || e != api.OK {
			t.Error(i, o, n, e)
		}
	}
	if o, n, e := ring.Cut(exampleSite(), api.Climate{Dry: bounds(0, 7)}, 0, nil); !sameClimate(o, api.Climate{Dry: bounds(0, 7)}) || n != 0 || e != api.OK {
		t.Error(o, n, e)
	}
}

// P2.3: the first measured ring that contradicts the climate.
func TestCutAgainst(t *testing.T) {
	some, none := bounds(0, api.MaxThick), bounds(9999, 9999)
	for i, x := range []struct {
		c        api.Climate
		measured []api.Bounds
		year     int
	}{
		{exampleClimate(), rings(none), 0},
		{exampleClimate(), rings(bounds(0, 159)), 0},
		{exampleClimate(), rings(bounds(321, 401)), 0},
		{exampleClimate(), rings(some, none), 1},
		{exampleClimate(), rings(some, some, none), 2},
		{exampleClimate(), rings(some, none, none), 1},
		// A second wet year is possible alone, but not after a first one.
		{exampleClimate(), rings(bounds(300, 310), bounds(301, 401)), 1},
		// The first two years can be mean, but then no year is dry, if the third one is mean too.
		{exampleClimate(), rings(some, bounds(200, 299), bounds(200, 300)), 2},
		// No year can be wet, as the second one would be against what comes after it.
		{changed(func(c *api.Climate) { c.Next[wet] = [3]bool{} }), rings(some, bounds(301, 401), some), 1},
		// There is no course at all.
		{changed(func(c *api.Climate) { c.Dry = bounds(3, 3) }), rings(some, none), 0},
		{changed(func(c *api.Climate) { c.Years[2] = kinds("") }), rings(some, some, some), 0},
		{changed(func(c *api.Climate) { c.Years[2] = kinds("") }), nil, 0},
		{api.Climate{Dry: bounds(1, 1)}, nil, 0},
	} {
		if o, n, e := ring.Cut(exampleSite(), x.c, 0, x.measured); !sameClimate(o, api.Climate{}) || n != x.year || e != api.ErrAgainst {
			t.Error(i, o, n, e)
		}
	}
}

// P2.3: what a cut tells is what the courses tell, counted out.
func TestCutOfCourses(t *testing.T) {
	r := rand.New(rand.NewSource(6))
	against := 0
	for range often {
		s, c, before := someSite(r), someClimate(r, 5), r.Intn(5)
		measured := someRings(r, s, len(c.Years))
		agreeing := func(n int) [][]api.Rain {
			return slices.DeleteFunc(everyCourse(c), func(l []api.Rain) bool { return !agrees(s, l, 0, before, measured[:n]) })
		}
		courses := agreeing(len(measured))
		want, year, wanted := c, len(c.Years), api.OK
		want.Years = union(courses, len(c.Years))
		if len(courses) == 0 {
			want, year, wanted = api.Climate{}, 0, api.ErrAgainst
			for len(agreeing(0)) > 0 && len(agreeing(year+1)) > 0 {
				year++
			}
			against += year
		}
		if o, n, e := ring.Cut(s, c, before, measured); !sameClimate(o, want) || n != year || e != wanted {
			t.Fatal(s, c, before, measured, o, n, e, want, year)
		}
	}
	if against == 0 {
		t.Error("no later ring was against its climate")
	}
}

// P2.3
func TestMatch(t *testing.T) {
	some := bounds(0, api.MaxThick)
	for i, x := range []struct {
		c        api.Climate
		measured []api.Bounds
		want     []int
	}{
		{exampleClimate(), rings(bounds(120, 130), bounds(90, 100)), []int{1}},
		{exampleClimate(), rings(some), []int{0, 1, 2}},
		{exampleClimate(), rings(some, some), []int{0, 1}},
		{exampleClimate(), rings(some, some, some), []int{0}},
		// The first ring has the factor 800 in whatever year it grows.
		{exampleClimate(), rings(bounds(80, 80)), []int{1, 2}},
		{exampleClimate(), rings(bounds(79, 79)), nil},
		{exampleClimate(), rings(bounds(320, 320)), []int{0, 1}},
		{exampleClimate(), rings(bounds(321, 401)), nil},
		{exampleClimate(), rings(some, bounds(401, 401)), []int{0}},
		// A wet year does not come after another one; the third year is dry or mean.
		{exampleClimate(), rings(bounds(320, 320), bounds(301, 401)), nil},
		{exampleClimate(), rings(bounds(320, 320), bounds(151, 299)), []int{0}},
		{exampleClimate(), rings(bounds(320, 320), bounds(100, 150)), []int{0, 1}},
		// No course at all.
		{changed(func(c *api.Climate) { c.Dry = bounds(3, 3) }), rings(some), nil},
		{changed(func(c *api.Climate) { c.Years[2] = kinds("") }), rings(some), nil},
	} {
		if l, e := ring.Match(exampleSite(), x.c, x.measured); !slices.Equal(l, x.want) || e != api.OK {
			t.Error(i, l, e)
		}
	}
	if l, e := ring.Match(exampleSite(), api.Climate{}, rings(some)); l != nil || e != api.ErrCount {
		t.Error(l, e)
	}
	many := free(slices.Repeat([]string{"DMW"}, 30)...)
	if l, e := ring.Match(exampleSite(), many, rings(some)); len(l) != 30 || !slices.IsSorted(l) || e != api.OK {
		t.Error(l, e)
	}
}

// P2.3: the years that match are those that the courses allow, counted out.
func TestMatchOfCourses(t *testing.T) {
	r := rand.New(rand.NewSource(7))
	several := 0
	for range often {
		s, c := someSite(r), someClimate(r, 5)
		measured := someRings(r, s, len(c.Years))
		if len(measured) == 0 {
			continue
		}
		var want []int
		for year := range len(c.Years) - len(measured) + 1 {
			if slices.ContainsFunc(everyCourse(c), func(l []api.Rain) bool { return agrees(s, l, year, 0, measured) }) {
				want = append(want, year)
			}
		}
		several += len(want) / 2
		if l, e := ring.Match(s, c, measured); !slices.Equal(l, want) || e != api.OK {
			t.Fatal(s, c, measured, l, e, want)
		}
	}
	if several == 0 {
		t.Error("no rings matched in several years")
	}
}

// P2.6: what really grew, and was measured within bounds, agrees: nothing real is lost.
func TestRealRingsAreNotLost(t *testing.T) {
	r := rand.New(rand.NewSource(8))
	for range often {
		s, c, before := someSite(r), someClimate(r, 6), r.Intn(5)
		courses := everyCourse(c)
		if len(courses) == 0 || len(c.Years) == 0 {
			continue
		}
		course := courses[r.Intn(len(courses))]
		o, _, e := ring.Cut(s, c, before, measure(r, s, course[:r.Intn(len(course)+1)], before))
		if e != api.OK || !isCourse(o, course) {
			t.Fatal(s, c, before, course, o, e)
		}
		from := r.Intn(len(course))
		to := from + 1 + r.Intn(len(course)-from)
		if l, e := ring.Match(s, c, measure(r, s, course[from:to], 0)); e != api.OK || !slices.Contains(l, from) {
			t.Fatal(s, c, course, from, to, l, e)
		}
	}
}

// measure returns bounds in which real rings of some years lie.
func measure(r *rand.Rand, s api.Site, course []api.Rain, before int) (measured []api.Bounds) {
	for i, k := range course {
		real := someRing(r, ringOf(s, k, before+i))
		measured = append(measured, bounds(max(0, real-r.Intn(9)), real+r.Intn(9)))
	}
	return measured
}
