package tree_test

import (
	"math/rand"
	"testing"

	"sobreiro/api"
	"sobreiro/tree"
)

// P1.1
func TestGirth(t *testing.T) {
	late := example()
	late.Trees[0].Taped = 200
	great := changed(func(f *api.Forest, t *api.Tree) {
		t.Taped, t.Girth, t.Grows = 0, bounds(6000, 6000), bounds(0, 50)
	})
	for i, x := range []struct {
		f    api.Forest
		year int
		want api.Bounds
	}{
		{example(), 42, bounds(700, 716)},
		{example(), 41, bounds(695, 708)},
		{example(), 40, bounds(690, 700)},
		{example(), 39, bounds(682, 695)},
		{example(), 38, bounds(674, 690)},
		{example(), 0, bounds(370, 500)},
		{late, 90, bounds(0, 150)},
		{late, 60, bounds(0, 0)},
		{late, 0, bounds(0, 0)},
		{great, 300, bounds(6000, 21000)},
	} {
		if g, e := tree.Girth(x.f, 0, x.year); g != x.want || e != api.OK {
			t.Error(i, g, e)
		}
	}
	two := example()
	two.Trees = append(two.Trees, api.Tree{Code: "S2", Girth: bounds(5, 6)})
	if g, e := tree.Girth(two, 1, 7); g != bounds(5, 6) || e != api.OK {
		t.Error(g, e)
	}
}

// P1.3: Highest is what the verdicts of all heights say.
func TestHighest(t *testing.T) {
	for i, x := range []struct {
		f              api.Forest
		year           int
		sure, possible int
	}{
		{example(), 42, 1400, 1432},
		{example(), 40, 0, 1400},
		{example(), 38, 0, 0},
		{example(42), 51, 1862, 1970},
		{example(42), 50, 0, 0},
		{changed(func(f *api.Forest, t *api.Tree) { f.Law.Factors[0] = 0 }), 42, 0, 0},
		{changed(func(f *api.Forest, t *api.Tree) { t.Girth, f.Law.Girth = bounds(0, 0), 0 }), 40, 0, 0},
		{changed(func(f *api.Forest, t *api.Tree) { f.Law.Factors[0], t.Girth = 50, bounds(3000, 3000) }), 40, 15000, 15000},
		{changed(func(f *api.Forest, t *api.Tree) { f.Law.Factors[0], t.Girth = 50, bounds(2999, 6000) }), 40, 14995, 15000},
	} {
		if a, b, e := tree.Highest(x.f, 0, x.year); a != x.sure || b != x.possible || e != api.OK {
			t.Error(i, a, b, e)
		}
	}
	r := rand.New(rand.NewSource(13))
	for range 3000 {
		f, y := small(r), r.Intn(smallYear+1)
		sure, possible := 0, 0
		for h := 1; h <= 70; h++ { // no small forest allows more
			v, _, _ := tree.May(f, 0, y, h)
			if v == api.VdAlways {
				sure = h
			}
			if v != api.VdNever {
				possible = h
			}
		}
		if a, b, e := tree.Highest(f, 0, y); a != sure || b != possible || e != api.OK {
			t.Fatal(f, y, a, b, e, sure, possible)
		}
	}
}

// P1.3: Next is what the verdicts of all years say.
func TestNext(t *testing.T) {
	for i, x := range []struct {
		f                    api.Forest
		from, sure, possible int
	}{
		{example(), 0, 42, 40},
		{example(), 41, 42, 41},
		{example(), 43, 43, 43},
		{example(), 300, 300, 300},
		{example(42), 43, 51, 51},
		{example(292), 284, -1, -1},
		{changed(func(f *api.Forest, t *api.Tree) { t.Dead = 42 }), 0, -1, 40},
		{changed(func(f *api.Forest, t *api.Tree) { t.Dead = 40 }), 0, -1, -1},
		{changed(func(f *api.Forest, t *api.Tree) { t.Born = bounds(275, 276) }), 0, -1, 300},
		{changed(func(f *api.Forest, t *api.Tree) { t.Born = bounds(275, 275) }), 0, 300, 300},
		{changed(func(f *api.Forest, t *api.Tree) { // a height of 1 and no more is allowed, from 39 on
			f.Law.Girth, f.Law.Factors[0], t.Girth, t.Grows = 0, 1, bounds(5, 10), bounds(0, 0)
		}), 39, -1, 39},
		{changed(func(f *api.Forest, t *api.Tree) {
			f.Law.Girth, f.Law.Factors[0], t.Girth, t.Grows = 0, 1, bounds(10, 10), bounds(0, 0)
		}), 0, 39, 35},
	} {
		if a, b, e := tree.Next(x.f, 0, x.from); a != x.sure || b != x.possible || e != api.OK {
			t.Error(i, a, b, e)
		}
	}
	r := rand.New(rand.NewSource(14))
	for range 300 {
		f, from := great(r), r.Intn(api.MaxYear+1)
		sure, possible := -1, -1
		for y := api.MaxYear; y >= from; y-- {
			v, _, _ := tree.May(f, 0, y, 1)
			if v == api.VdAlways {
				sure = y
			}
			if v != api.VdNever {
				possible = y
			}
		}
		if a, b, e := tree.Next(f, 0, from); a != sure || b != possible || e != api.OK {
			t.Fatal(f, from, a, b, e, sure, possible)
		}
	}
}

// P1.3: First is what the verdicts say when the tree has the strips before alone.
func TestFirst(t *testing.T) {
	tall := example(42, 51)
	tall.Trees[0].Strips[1].Height = 1971
	dead := example(42, 51)
	dead.Trees[0].Dead = 51
	hurt := example(42, 51, 60)
	hurt.Trees[0].Wounds = []int{49, 62}
	for i, x := range []struct {
		f     api.Forest
		strip int
		rule  api.Rule
	}{
		{example(), -1, api.TrNone},
		{example(42), -1, api.TrNone},
		{example(40, 49), -1, api.TrNone}, // the first one was not surely forbidden
		{example(38), 0, api.TrGirth},
		{example(30, 31), 0, api.TrAge},
		{example(42, 50, 51), 1, api.TrRest},
		{example(42, 51, 59), 2, api.TrRest},
		{tall, 1, api.TrHeight},
		{dead, 1, api.TrDead},
		{hurt, 1, api.TrHeal},
	} {
		before := clone(x.f)
		if n, r, e := tree.First(x.f, 0); n != x.strip || r != x.rule || e != api.OK {
			t.Error(i, n, r, e)
		}
		if !same(before, x.f) {
			t.Error(i, "the forest was changed")
		}
	}
	r := rand.New(rand.NewSource(15))
	for range 3000 {
		f := small(r)
		strip, rule := -1, api.TrNone
		for i, s := range f.Trees[0].Strips {
			g := clone(f)
			g.Trees[0].Strips = g.Trees[0].Strips[:i]
			if v, broken, _ := tree.May(g, 0, s.Year, s.Height); v == api.VdNever {
				strip, rule = i, broken
				break
			}
		}
		if n, b, e := tree.First(f, 0); n != strip || b != rule || e != api.OK {
			t.Fatal(f, n, b, e)
		}
	}
}

// P1.4
func TestArea(t *testing.T) {
	for i, x := range []struct {
		f            api.Forest
		year, height int
		want         api.Bounds
		e            api.Errno
	}{
		{example(), 42, 1000, bounds(7000, 7160), api.OK},
		{example(), 42, 1, bounds(7, 8), api.OK},   // 700 and 716
		{example(), 41, 1, bounds(6, 8), api.OK},   // 695 and 708
		{example(), 40, 3, bounds(20, 21), api.OK}, // 2070 and 2100
		{example(), 42, 1432, bounds(10024, 10254), api.OK},
		{example(), 42, 1433, bounds(0, 0), api.ErrAgainst},
		{example(), 38, 1, bounds(0, 0), api.ErrAgainst},
		{example(42), 50, 1, bounds(0, 0), api.ErrAgainst},
		{changed(func(f *api.Forest, t *api.Tree) {
			f.Law.Factors[0], t.Taped, t.Girth, t.Grows = 50, 0, bounds(6000, 6000), bounds(50, 50)
		}), 300, 15000, bounds(3150000, 3150000), api.OK},
	} {
		if a, e := tree.Area(x.f, 0, x.year, x.height); a != x.want || e != x.e {
			t.Error(i, a, e)
		}
	}
	r := rand.New(rand.NewSource(16))
	for range 3000 {
		f, y, h := great(r), r.Intn(api.MaxYear+1), 1+r.Intn(api.MaxHeight)
		want, wanted := api.Bounds{}, api.ErrAgainst
		if v, _, _ := tree.May(f, 0, y, h); v != api.VdNever {
			g, _ := tree.Girth(f, 0, y)
			want, wanted = bounds(g.Min*h/100, g.Max*h/100), api.OK
			if want.Max*100 < g.Max*h {
				want.Max++
			}
		}
		if a, e := tree.Area(f, 0, y, h); a != want || e != wanted {
			t.Fatal(f, y, h, a, e)
		}
	}
}

// R4: no argument is changed.
func TestForestIsKept(t *testing.T) {
	r := rand.New(rand.NewSource(17))
	for range 300 {
		f := great(r)
		before := clone(f)
		answers(f, 0, r.Intn(api.MaxYear+1), 1)
		if !same(before, f) {
			t.Fatal(before, f)
		}
	}
}
