package ring_test

import (
	"math/rand"
	"slices"
	"testing"

	"sobreiro/api"
	"sobreiro/ring"
)

// P2.2
func TestThick(t *testing.T) {
	s := exampleSite()
	odd := api.Site{Age: []int{333, 1, 0}, Grow: [3]api.Bounds{bounds(3, 4), bounds(999, 1000), bounds(2000, 2000)}}
	for i, x := range []struct {
		s     api.Site
		c     api.Climate
		from  api.Bounds
		rings int
		want  []api.Bounds
	}{
		{s, exampleClimate(), bounds(0, 0), 0, rings(bounds(160, 320), bounds(260, 641), bounds(360, 791))},
		{s, exampleClimate(), bounds(7, 9), 0, rings(bounds(167, 329), bounds(267, 650), bounds(367, 800))},
		{s, exampleClimate(), bounds(0, 0), 1, rings(bounds(200, 401), bounds(300, 701), bounds(400, 851))},
		{s, exampleClimate(), bounds(0, 0), 30, rings(bounds(200, 401), bounds(300, 701), bounds(400, 851))},
		{s, exampleClimate(), bounds(0, 200000), 0, rings(bounds(160, 200320), bounds(260, 200641), bounds(360, 200791))},
		// Both ends are rounded down; the last factor goes on.
		{odd, free("D", "D", "D"), bounds(0, 0), 0, rings(bounds(0, 1), bounds(0, 1), bounds(0, 1))},
		{odd, free("M", "M", "W"), bounds(0, 0), 0, rings(bounds(332, 333), bounds(332, 334), bounds(332, 334))},
		{odd, free("M", "W"), bounds(5, 6), 1, rings(bounds(5, 7), bounds(5, 7))},
		{s, free("D", "D", "D", "D"), bounds(0, 0), 0, rings(bounds(80, 120), bounds(180, 270), bounds(280, 420), bounds(380, 570))},
		{s, api.Climate{}, bounds(5, 6), 0, nil},
		// Not the first kind is thinnest.
		{api.Site{Age: []int{1000}, Grow: [3]api.Bounds{bounds(9, 9), bounds(5, 6), bounds(0, 7)}}, free("DMW"), bounds(0, 0), 0, rings(bounds(0, 9))},
	} {
		if l, e := ring.Thick(x.s, x.c, x.from, x.rings); !slices.Equal(l, x.want) || e != api.OK {
			t.Error(i, l, e)
		}
	}
	great := api.Site{Age: []int{2000}, Grow: [3]api.Bounds{bounds(2000, 2000), bounds(2000, 2000), bounds(2000, 2000)}}
	if l, e := ring.Thick(great, free(slices.Repeat([]string{"DMW"}, 30)...), bounds(200000, 200000), 30); l[29] != bounds(320000, 320000) || e != api.OK {
		t.Error(l, e)
	}
}

// P2.2, P2.5: the bounds are those of the courses, counted out: the thickness of each course lies within them, and both ends are reached.
func TestThickOfCourses(t *testing.T) {
	r := rand.New(rand.NewSource(2))
	for range often {
		s, c, from, before := someSite(r), someClimate(r, 6), within(r, 0, 50), r.Intn(5)
		var want []api.Bounds
		for n, course := range everyCourse(c) {
			if n == 0 {
				want = make([]api.Bounds, len(course))
			}
			at := from
			for i, k := range course {
				ring := ringOf(s, k, before+i)
				at = bounds(at.Min+ring.Min, at.Max+ring.Max)
				if n == 0 {
					want[i] = at
				}
				want[i] = bounds(min(want[i].Min, at.Min), max(want[i].Max, at.Max))
			}
		}
		l, e := ring.Thick(s, c, from, before)
		if !slices.Equal(l, want) || (e == api.OK) != (len(everyCourse(c)) > 0) {
			t.Fatal(s, c, from, before, l, e, want)
		}
	}
}

// P2.5: whatever rings really grow, the thickness is within the bounds.
func TestThickOfRealRings(t *testing.T) {
	r := rand.New(rand.NewSource(3))
	for range often {
		s, c, from, before := someSite(r), someClimate(r, 6), within(r, 0, 50), r.Intn(5)
		courses := everyCourse(c)
		if len(courses) == 0 {
			continue
		}
		l, _ := ring.Thick(s, c, from, before)
		at := from.Min + r.Intn(from.Max-from.Min+1)
		for i, k := range courses[r.Intn(len(courses))] {
			at += someRing(r, ringOf(s, k, before+i))
			if at < l[i].Min || l[i].Max < at {
				t.Fatal(s, c, from, before, l, i, at)
			}
		}
	}
}

// someRing returns a real ring within bounds.
func someRing(r *rand.Rand, b api.Bounds) int { return b.Min + r.Intn(b.Max-b.Min+1) }

// P2.2
func TestWorst(t *testing.T) {
	s := exampleSite()
	even := api.Site{Age: []int{1000}, Grow: [3]api.Bounds{bounds(5, 9), bounds(5, 8), bounds(5, 7)}}
	wetThin := api.Site{Age: []int{1000}, Grow: [3]api.Bounds{bounds(5, 9), bounds(3, 8), bounds(1, 7)}}
	for i, x := range []struct {
		s     api.Site
		c     api.Climate
		rings int
		want  []api.Rain
		sum   int
	}{
		{s, exampleClimate(), 0, []api.Rain{mean, dry, dry}, 360},
		{s, exampleClimate(), 1, []api.Rain{mean, dry, dry}, 400},
		{s, api.Climate{}, 0, nil, 0},
		{s, free("MW", "D"), 30, []api.Rain{mean, dry}, 300},
		// One dry year: where it is matters by the factor of the first ring alone.
		{s, changed(func(c *api.Climate) { *c = free("DM", "DM", "DM"); c.Dry = bounds(1, 1) }), 0, []api.Rain{mean, dry, mean}, 460},
		{s, changed(func(c *api.Climate) { *c = free("DM", "DM", "DM"); c.Dry = bounds(1, 1) }), 1, []api.Rain{dry, mean, mean}, 500},
		{even, free("DMW", "MW", "DMW"), 0, []api.Rain{dry, mean, dry}, 15},
		{even, changed(func(c *api.Climate) { *c = free("DMW", "DMW"); c.Next[dry] = [3]bool{false, false, true} }), 0, []api.Rain{dry, wet}, 10},
		{wetThin, free("DMW", "DM"), 0, []api.Rain{wet, mean}, 4},
		// The thinnest first year leads to the thickest second one.
		{wetThin, changed(func(c *api.Climate) { *c = free("DMW", "DW"); c.Next[wet] = [3]bool{true}; c.Next[mean][dry] = false }), 0, []api.Rain{mean, wet}, 4},
	} {
		if l, n, e := ring.Worst(x.s, x.c, x.rings); !slices.Equal(l, x.want) || n != x.sum || e != api.OK {
			t.Error(i, l, n, e)
		}
	}
	many := free(slices.Repeat([]string{"DMW"}, 30)...)
	if l, n, e := ring.Worst(even, many, 0); !slices.Equal(l, slices.Repeat([]api.Rain{dry}, 30)) || n != 150 || e != api.OK {
		t.Error(l, n, e)
	}
	many.Dry = bounds(0, 0)
	if l, n, e := ring.Worst(even, many, 0); !slices.Equal(l, slices.Repeat([]api.Rain{mean}, 30)) || n != 150 || e != api.OK {
		t.Error(l, n, e)
	}
}

// P2.2, P0.3: no course has a smaller sum, and none with the same sum is less.
func TestWorstOfCourses(t *testing.T) {
	r := rand.New(rand.NewSource(4))
	for range often {
		s, c, before := someSite(r), someClimate(r, 6), r.Intn(5)
		if r.Intn(2) == 0 { // so that several have the least sum
			s.Grow[mean].Min, s.Grow[wet].Min = s.Grow[dry].Min, s.Grow[dry].Min
			s.Grow[mean].Max, s.Grow[wet].Max = s.Grow[dry].Max, s.Grow[dry].Max
		}
		var want []api.Rain
		sum, wanted := 0, api.ErrAgainst
		for _, course := range everyCourse(c) {
			n := 0
			for i, k := range course {
				n += ringOf(s, k, before+i).Min
			}
			if wanted != api.OK || n < sum {
				want, sum, wanted = course, n, api.OK
			}
		}
		if l, n, e := ring.Worst(s, c, before); !slices.Equal(l, want) || n != sum || e != wanted {
			t.Fatal(s, c, before, l, n, e, want, sum)
		}
	}
}

// P2.2
func TestReach(t *testing.T) {
	s := exampleSite()
	for i, x := range []struct {
		from         api.Bounds
		target       int
		always, once int
	}{
		{bounds(0, 0), 360, 2, 1},
		{bounds(0, 0), 361, -1, 1},
		{bounds(0, 0), 320, 2, 0},
		{bounds(0, 0), 321, 2, 1},
		{bounds(0, 0), 160, 0, 0},
		{bounds(0, 0), 161, 1, 0},
		{bounds(0, 0), 0, 0, 0},
		{bounds(0, 0), 791, -1, 2},
		{bounds(0, 0), 792, -1, -1},
		{bounds(0, 1), 792, -1, 2},
		{bounds(0, 0), 200000, -1, -1},
		{bounds(200000, 200000), 200000, 0, 0},
		{bounds(0, 200000), 200000, -1, 0},
	} {
		if a, b, e := ring.Reach(s, exampleClimate(), x.from, 0, x.target); a != x.always || b != x.once || e != api.OK {
			t.Error(i, a, b, e)
		}
	}
	if a, b, e := ring.Reach(s, exampleClimate(), bounds(0, 0), 1, 400); a != 2 || b != 0 || e != api.OK {
		t.Error(a, b, e)
	}
	if a, b, e := ring.Reach(s, api.Climate{}, bounds(5, 5), 0, 0); a != -1 || b != -1 || e != api.OK {
		t.Error(a, b, e)
	}
}

// P2.7: what surely is reached is reached in every course, and not later than what is greater.
func TestReachOfCourses(t *testing.T) {
	r := rand.New(rand.NewSource(5))
	for range often {
		s, c, from, before := someSite(r), someClimate(r, 5), within(r, 0, 50), r.Intn(5)
		courses := everyCourse(c)
		if len(courses) == 0 {
			continue
		}
		l, _ := ring.Thick(s, c, from, before)
		top := 60
		if len(l) > 0 {
			top = l[len(l)-1].Max + 2
		}
		target := r.Intn(top)
		always, once, e := ring.Reach(s, c, from, before, target)
		wantAlways, wantOnce := -1, -1
		for i := range slices.Backward(l) {
			least, most := thickOf(s, courses, from, before, i)
			if least >= target {
				wantAlways = i
			}
			if most >= target {
				wantOnce = i
			}
		}
		if always != wantAlways || once != wantOnce || e != api.OK {
			t.Fatal(s, c, from, before, target, always, once, e)
		}
		more, perhaps, _ := ring.Reach(s, c, from, before, target+r.Intn(50))
		if more >= 0 && (always < 0 || always > more) || perhaps >= 0 && (once < 0 || once > perhaps) {
			t.Fatal(s, c, from, before, target, always, once, more, perhaps)
		}
	}
}

// thickOf returns the least and the greatest thickness after a year in any of the courses.
func thickOf(s api.Site, courses [][]api.Rain, from api.Bounds, before, year int) (least, most int) {
	for n, course := range courses {
		at := from
		for i, k := range course[:year+1] {
			ring := ringOf(s, k, before+i)
			at = bounds(at.Min+ring.Min, at.Max+ring.Max)
		}
		if n == 0 {
			least, most = at.Min, at.Max
		}
		least, most = min(least, at.Min), max(most, at.Max)
	}
	return least, most
}
