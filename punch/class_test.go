package punch_test

import (
	"math/rand"
	"testing"

	"sobreiro/api"
	"sobreiro/punch"
)

// P7.1: the chapter's examples, and pieces that touch a flaw with one cell, or none.
func TestClass(t *testing.T) {
	l := exampleLath()
	for i, x := range []struct {
		l               api.Lath
		at, least, most int
		e               api.Errno
	}{
		{l, 0, 0, 2, api.OK}, {l, 1, 2, 2, api.OK}, {l, 5, 0, 2, api.OK}, {l, 6, 0, 1, api.OK},
		{l, 2, 2, 2, api.OK}, {l, 4, 2, 2, api.OK}, {l, 7, 0, 1, api.OK}, {l, 8, 0, 1, api.OK},
		{l, -1, 0, 0, api.ErrValue}, {l, 9, 0, 0, api.ErrValue},
		// A flaw of a cell that surely is there, and one that may not be.
		{lathWith(flaw(known(5), known(6), 1, true)), 1, 0, 0, api.OK},
		{lathWith(flaw(known(5), known(6), 1, true)), 2, 1, 1, api.OK},
		{lathWith(flaw(known(5), known(6), 1, true)), 5, 1, 1, api.OK},
		{lathWith(flaw(known(5), known(6), 1, true)), 6, 0, 0, api.OK},
		{lathWith(flaw(known(5), known(6), 1, false)), 2, 0, 1, api.OK},
		{lathWith(flaw(known(5), known(6), 1, false)), 5, 0, 1, api.OK},
		{lathWith(flaw(known(5), known(6), 1, false)), 6, 0, 0, api.OK},
		// A flaw that can have more cells, or be at another place.
		{lathWith(flaw(bounds(0, 5), bounds(6, 12), 1, true)), 0, 0, 1, api.OK},
		{lathWith(flaw(bounds(0, 5), bounds(6, 12), 1, true)), 1, 0, 1, api.OK},
		{lathWith(flaw(bounds(0, 5), bounds(6, 12), 1, true)), 2, 1, 1, api.OK},
		{lathWith(flaw(bounds(0, 5), bounds(6, 12), 1, true)), 6, 0, 1, api.OK},
		{lathWith(flaw(known(0), known(12), 2, true)), 8, 2, 2, api.OK},
		{lathWith(flaw(known(0), known(12), 2, false)), 0, 0, 2, api.OK},
		// The greatest grade of several, whatever their order.
		{lathWith(flaw(known(0), known(4), 2, true), flaw(known(3), known(5), 1, true)), 3, 2, 2, api.OK},
		{lathWith(flaw(known(0), known(4), 2, true), flaw(known(3), known(5), 1, true)), 4, 1, 1, api.OK},
		{lathWith(flaw(known(3), known(5), 1, true), flaw(known(0), known(4), 2, false)), 3, 1, 2, api.OK},
		{lathWith(flaw(known(3), known(5), 2, false), flaw(known(3), known(5), 1, true)), 0, 1, 2, api.OK},
		// A cork as long as the lath, and one that is longer.
		{changed(func(l *api.Lath) { l.Width = 12 }), 0, 2, 2, api.OK},
		{changed(func(l *api.Lath) { l.Width = 12 }), 1, 0, 0, api.ErrValue},
		{changed(func(l *api.Lath) { l.Width = 13 }), 0, 0, 0, api.ErrValue},
		{changed(func(l *api.Lath) { l.Width = 13 }), -1, 0, 0, api.ErrValue},
	} {
		if least, most, e := punch.Class(x.l, x.at); least != x.least || most != x.most || e != x.e {
			t.Error(i, least, most, e)
		}
	}
}

func flaw(from, to api.Bounds, grade int, sure bool) api.Flaw {
	return api.Flaw{From: from, To: to, Grade: grade, Sure: sure}
}

// lathWith returns the example's lath with other flaws.
func lathWith(flaws ...api.Flaw) api.Lath {
	return changed(func(l *api.Lath) { l.Flaws = flaws })
}

// P7.1: the chapter's example, and plans of none and of many corks.
func TestValue(t *testing.T) {
	l := exampleLath()
	for i, x := range []struct {
		l    api.Lath
		plan []int
		want api.Bounds
		e    api.Errno
	}{
		{l, []int{1, 8}, bounds(7, 11), api.OK},
		{l, []int{0, 6}, bounds(7, 20), api.OK},
		{l, nil, known(0), api.OK},
		{l, []int{8}, bounds(6, 10), api.OK},
		{l, []int{3, 8}, bounds(7, 11), api.OK},
		{l, []int{3, 7}, bounds(0, 0), api.ErrOrder},
		{l, []int{3, 3}, bounds(0, 0), api.ErrOrder},
		{l, []int{8, 3}, bounds(0, 0), api.ErrOrder},
		{l, []int{3, 9}, bounds(0, 0), api.ErrValue},
		{l, []int{-1, 6}, bounds(0, 0), api.ErrValue},
		{l, []int{3, 7, 9}, bounds(0, 0), api.ErrOrder},
		{l, []int{3, 9, 4}, bounds(0, 0), api.ErrValue},
		{changed(func(l *api.Lath) { l.Gap = 0 }), []int{0, 4, 8}, bounds(8, 21), api.OK},
		{changed(func(l *api.Lath) { l.Gap = 10 }), []int{0}, bounds(1, 10), api.OK},
		{changed(func(l *api.Lath) { l.Length, l.Gap = 20, 10 }), []int{0, 14}, bounds(11, 20), api.OK},
		{changed(func(l *api.Lath) { l.Length, l.Gap = 20, 10 }), []int{0, 13}, bounds(0, 0), api.ErrOrder},
		{changed(func(l *api.Lath) { l.Width = 13 }), nil, known(0), api.OK},
		{changed(func(l *api.Lath) { l.Width = 13 }), []int{0}, known(0), api.ErrValue},
		{api.Lath{Length: 300, Width: 1, Prices: []int{10000}}, upTo(300), known(3000000), api.OK},
	} {
		if v, e := punch.Value(x.l, x.plan); v != x.want || e != x.e {
			t.Error(i, v, e)
		}
	}
}

// upTo returns the numbers from 0 up to the one before n.
func upTo(n int) (l []int) {
	for i := range n {
		l = append(l, i)
	}
	return l
}

// P7.1, P7.6, P0.2: classes and values of small laths, with all their real flaws counted out.
func TestSmallLaths(t *testing.T) {
	r := rand.New(rand.NewSource(1))
	for range often {
		told := taleOf(someLath(r, small()))
		for at := 0; at <= told.Length-told.Width; at++ {
			wantLeast, wantMost := told.classes(at, told.Width)
			if least, most, e := punch.Class(told.Lath, at); least != wantLeast || most != wantMost || e != api.OK {
				t.Fatal(told.Lath, at, least, most, e)
			}
		}
		plan := somePlan(r, told.Lath)
		v, e := punch.Value(told.Lath, plan)
		if v != told.value(plan) || e != api.OK {
			t.Fatal(told.Lath, plan, v, e)
		}
		for _, there := range told.reals {
			if !isIn(realWorth(told.Lath, there, plan), v) {
				t.Fatal(told.Lath, plan, there, v)
			}
		}
	}
}

// P7.6, P0.2: real flaws of laths of all sizes.
func TestRealFlaws(t *testing.T) {
	r := rand.New(rand.NewSource(2))
	for range often {
		l := someLath(r, full())
		plan, there := somePlan(r, l), someReal(r, l)
		for _, at := range plan {
			if least, most, e := punch.Class(l, at); !isIn(realClass(there, at, l.Width), bounds(least, most)) || e != api.OK {
				t.Fatal(l, at, there, least, most, e)
			}
		}
		if v, e := punch.Value(l, plan); !isIn(realWorth(l, there, plan), v) || e != api.OK {
			t.Fatal(l, plan, there, v, e)
		}
	}
}
