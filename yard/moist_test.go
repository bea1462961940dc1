package yard_test

import (
	"math/rand"
	"testing"

	"sobreiro/api"
	"sobreiro/yard"
)

// P5.2: the example, and how it is rounded.
func TestMoist(t *testing.T) {
	of := func(dry, water api.Bounds) api.Yard { return yardOf(0, 0, pile(0, "A", dry, water)) }
	for i, x := range []struct {
		y    api.Yard
		n    int
		code string
		want api.Bounds
		e    api.Errno
	}{
		{exampleYard(), 6, "B", bounds(500, 646), api.OK},
		{exampleYard(), 7, "B", bounds(500, 646), api.OK},
		{exampleYard(), 1, "A", bounds(272, 400), api.OK},
		{exampleYard(), 6, "A", bounds(486, 733), api.OK},
		{exampleYard(), 7, "A", api.Bounds{}, api.ErrMissing},
		{exampleYard(), 0, "A", api.Bounds{}, api.ErrMissing},
		{exampleYard(), 4, "B", api.Bounds{}, api.ErrMissing},
		{changed(func(y *api.Yard) { y.Deeds[5].A = bounds(340, 350) }), 6, "B", api.Bounds{}, api.ErrAgainst},
		{changed(func(y *api.Yard) { y.Deeds[5].A = bounds(340, 350) }), 6, "C", api.Bounds{}, api.ErrAgainst},
		{changed(func(y *api.Yard) { y.Deeds[5].A = bounds(340, 350) }), 5, "B", bounds(486, 730), api.OK},
		{of(known(10), known(0)), 1, "A", known(0), api.OK},
		{of(known(3), known(1)), 1, "A", bounds(333, 334), api.OK},
		{of(known(3), known(2)), 1, "A", bounds(666, 667), api.OK},
		{of(known(3), known(3)), 1, "A", known(1000), api.OK},
		{of(known(1000), known(7)), 1, "A", known(7), api.OK},
		{of(known(1001), known(7)), 1, "A", bounds(6, 7), api.OK},
		{of(bounds(1, 7), bounds(0, 3)), 1, "A", bounds(0, 3000), api.OK},
		{of(known(1), known(api.MaxMass)), 1, "A", known(1000 * api.MaxMass), api.OK},
		{of(known(api.MaxMass), known(1)), 1, "A", bounds(0, 1), api.OK},
		{of(bounds(0, 7), bounds(0, 3)), 1, "A", api.Bounds{}, api.ErrRoom},
		{of(known(0), known(0)), 1, "A", api.Bounds{}, api.ErrRoom},
	} {
		if b, e := yard.Moist(x.y, x.n, x.code); b != x.want || e != x.e {
			t.Error(i, b, e)
		}
	}
}

// P5.2: surely, surely not, or not known, at the limits of each.
func TestDry(t *testing.T) {
	of := func(dry, water api.Bounds) api.Yard { return yardOf(0, 0, pile(0, "A", dry, water)) }
	for i, x := range []struct {
		y    api.Yard
		most int
		want api.Verdict
	}{
		{of(known(10), known(5)), 500, api.VdAlways},
		{of(known(10), known(5)), 499, api.VdNever},
		{of(known(10), bounds(4, 5)), 499, api.VdUnknown},
		{of(bounds(10, 11), known(5)), 499, api.VdUnknown},
		{of(bounds(10, 11), known(5)), 500, api.VdAlways},
		{of(bounds(9, 10), known(5)), 500, api.VdUnknown},
		{of(bounds(9, 10), known(5)), 499, api.VdNever},
		{of(bounds(20, 30), bounds(10, 12)), 600, api.VdAlways},
		{of(bounds(20, 30), bounds(10, 12)), 599, api.VdUnknown},
		{of(bounds(20, 30), bounds(10, 12)), 334, api.VdUnknown},
		{of(bounds(20, 30), bounds(10, 12)), 333, api.VdNever},
		{of(known(10), known(0)), 0, api.VdAlways},
		{of(known(10), known(1)), 0, api.VdNever},
		{of(known(10), bounds(0, 1)), 0, api.VdUnknown},
		{of(known(10), known(30)), 3000, api.VdAlways},
		{of(known(10), known(31)), 3000, api.VdNever},
		// Without bark, no water is at most so much.
		{of(known(0), known(0)), 0, api.VdAlways},
		{of(known(0), known(1)), 3000, api.VdNever},
		{of(bounds(0, 1), known(1)), 3000, api.VdUnknown},
		{of(bounds(0, 1), known(0)), 3000, api.VdAlways},
	} {
		if v, e := yard.Dry(x.y, 1, "A", x.most); v != x.want || e != api.OK {
			t.Error(i, v, e)
		}
	}
	for n, want := range []api.Errno{api.ErrMissing, api.ErrMissing, api.ErrMissing, api.ErrMissing, api.ErrMissing, api.OK, api.OK, api.OK} {
		if v, e := yard.Dry(exampleYard(), n, "B", 0); e != want || e == api.OK && v != api.VdNever {
			t.Error(n, v, e)
		}
	}
}

// P5.2: whatever the stack is, its moisture and its verdict are those of all that can be in it.
func TestMoistCountedOut(t *testing.T) {
	r := rand.New(rand.NewSource(4))
	verdicts := map[api.Verdict]int{}
	for range 2 * often {
		dry, water := some(r, 12), some(r, 12)
		y := yardOf(0, 0, pile(0, "A", dry, water))
		most := []int{0, 100, 333, 500, 1000, 1500, 3000}[r.Intn(7)]
		always, never := true, true
		low, high := 1<<40, 0
		for d := dry.Min; d <= dry.Max; d++ {
			for w := water.Min; w <= water.Max; w++ {
				// w * 1000 / d is at most most.
				is := w*1000 <= most*d
				always, never = always && is, never && !is
				if d > 0 {
					up := w * 1000 / d
					if up*d < w*1000 {
						up++
					}
					low, high = min(low, w*1000/d), max(high, up)
				}
			}
		}
		want := api.VdUnknown
		if always {
			want = api.VdAlways
		} else if never {
			want = api.VdNever
		}
		if v, e := yard.Dry(y, 1, "A", most); v != want || e != api.OK {
			t.Fatal(dry, water, most, v, want, e)
		}
		verdicts[want]++
		b, e := yard.Moist(y, 1, "A")
		if dry.Min == 0 && (e != api.ErrRoom || b != api.Bounds{}) || dry.Min > 0 && (e != api.OK || b != bounds(low, high)) {
			t.Fatal(dry, water, b, low, high, e)
		}
	}
	if verdicts[api.VdAlways] < 100 || verdicts[api.VdNever] < 100 || verdicts[api.VdUnknown] < 100 {
		t.Error("too few verdicts", verdicts)
	}
}
