package punch_test

import (
	"math/rand"
	"slices"
	"testing"

	"sobreiro/api"
	"sobreiro/punch"
)

// P7.5: the chapter's example, and discs beside corks and flaws.
func TestDiscs(t *testing.T) {
	l := exampleLath()
	clean := lathOf(12, 4, 1, []int{10})
	for i, x := range []struct {
		l            api.Lath
		plan         []int
		width, class int
		want         []int
	}{
		{l, []int{6}, 2, 0, []int{0}},
		{l, []int{6}, 2, 1, []int{0}},
		{l, []int{6}, 2, 2, []int{0, 3}},
		{l, []int{6}, 3, 0, []int{0}},
		{l, []int{6}, 4, 0, nil},
		{l, []int{6}, 5, 2, []int{0}},
		{l, []int{6}, 6, 2, nil}, // a cell between it and the cork
		{l, []int{6}, 1, 0, []int{0, 2}},
		{l, []int{6}, 1, 1, []int{0, 2, 11}},
		{l, []int{0, 6}, 1, 2, []int{11}},
		{l, []int{0, 6}, 1, 0, nil},
		{l, nil, 2, 0, []int{0, 6}}, // the cells 9 to 11 can have a flaw
		{l, nil, 12, 2, []int{0}},
		{l, nil, 13, 2, nil},
		{l, nil, 300, 0, nil},
		{clean, nil, 2, 0, []int{0, 3, 6, 9}},
		{clean, nil, 5, 0, []int{0, 6}},
		{clean, []int{2}, 1, 0, []int{0, 7, 9, 11}},
		{clean, []int{1}, 1, 0, []int{6, 8, 10}},
		{clean, []int{0}, 7, 0, []int{5}},
		{clean, []int{1}, 7, 0, nil},
		{clean, []int{8}, 7, 0, []int{0}},
		// Without a gap pieces lie side by side, and still have no cell in common.
		{lathOf(12, 4, 0, []int{10}), []int{4}, 2, 0, []int{0, 2, 8, 10}},
		{lathOf(12, 4, 0, []int{10}), []int{3, 7}, 1, 0, []int{0, 1, 2, 11}},
		{lathOf(12, 4, 0, []int{10}), []int{0, 4, 8}, 1, 0, nil},
		{lathOf(12, 13, 0, []int{10}), nil, 12, 0, []int{0}},
		{lathOf(300, 60, 0, []int{10}), nil, 1, 0, upTo(300)},
	} {
		if discs, e := punch.Discs(x.l, x.plan, x.width, x.class); !slices.Equal(discs, x.want) || e != api.OK {
			t.Error(i, discs, e)
		}
	}
}

// isFree says whether a disc is far enough from all corks, cell by cell.
func isFree(l api.Lath, plan []int, at, width int) bool {
	for _, cork := range plan {
		for cell := cork - l.Gap; cell < cork+l.Width+l.Gap; cell++ {
			if at <= cell && cell < at+width {
				return false
			}
		}
	}
	return true
}

// discsOf returns what Discs has to return: it tries all lists of discs.
func (t tale) discsOf(plan []int, width, class int) (best []int) {
	good := map[int]bool{}
	for at := 0; at <= t.Length-width; at++ {
		_, most := t.classes(at, width)
		good[at] = most <= class && isFree(t.Lath, plan, at, width)
	}
	for discs := range lists(t.Length-width, width+t.Gap) {
		if len(discs) > len(best) && !slices.ContainsFunc(discs, func(at int) bool { return !good[at] }) {
			best = discs
		}
	}
	return best
}

// P7.5, P0.3: all lists of discs of small laths are counted out.
func TestDiscsOfAll(t *testing.T) {
	r := rand.New(rand.NewSource(10))
	for range often {
		told := taleOf(someLath(r, small()))
		plan, width, class := somePlan(r, told.Lath), 1+r.Intn(4), r.Intn(len(told.Prices))
		if r.Intn(3) == 0 {
			plan = plan[:len(plan)/2]
		}
		want := told.discsOf(plan, width, class)
		if discs, e := punch.Discs(told.Lath, plan, width, class); !slices.Equal(discs, want) || e != api.OK {
			t.Fatal(told.Lath, plan, width, class, discs, e, want)
		}
	}
}

// P7.8, P7.6: no disc could be added; discs have their class, whatever the real flaws are; and corks, discs and rest have all cells together.
func TestWhatIsLeft(t *testing.T) {
	r := rand.New(rand.NewSource(11))
	for range often {
		l := someLath(r, full())
		plan, width, class := somePlan(r, l), 1+r.Intn(8), r.Intn(len(l.Prices))
		discs, e := punch.Discs(l, plan, width, class)
		mass := bounds(r.Intn(50), 50+r.Intn(50))
		s, f := punch.Divide(l, plan, discs, width, mass)
		if e != api.OK || f != api.OK || s.Corks.Min+s.Discs.Min+s.Rest.Min != l.Length*mass.Min || s.Corks.Max+s.Discs.Max+s.Rest.Max != l.Length*mass.Max || s.Rest.Min < 0 {
			t.Fatal(l, plan, discs, width, mass, s, e, f)
		}
		there := someReal(r, l)
		for _, at := range discs {
			if realClass(there, at, width) > class {
				t.Fatal(l, plan, discs, there, class)
			}
		}
		possible := l
		possible.Width = width
		for at := 0; at <= l.Length-width; at++ {
			more := slices.Sorted(slices.Values(append(slices.Clone(discs), at)))
			_, e := punch.Divide(l, plan, more, width, mass)
			if _, most, _ := punch.Class(possible, at); most <= class && e == api.OK {
				t.Fatal(l, plan, discs, at)
			}
		}
	}
}

// P7.5: the chapter's example, and masses.
func TestDivide(t *testing.T) {
	l := exampleLath()
	for i, x := range []struct {
		l           api.Lath
		plan, discs []int
		width       int
		mass        api.Bounds
		want        api.Shares
		e           api.Errno
	}{
		{l, []int{6}, []int{0}, 2, bounds(5, 6), api.Shares{Corks: bounds(20, 24), Discs: bounds(10, 12), Rest: bounds(30, 36)}, api.OK},
		{l, nil, nil, 2, bounds(5, 6), api.Shares{Rest: bounds(60, 72)}, api.OK},
		{l, []int{6}, nil, 300, known(1), api.Shares{Corks: known(4), Rest: known(8)}, api.OK},
		{l, nil, []int{0}, 12, bounds(0, 100000), api.Shares{Discs: bounds(0, 1200000)}, api.OK},
		{l, []int{0, 6}, []int{11}, 1, known(0), api.Shares{}, api.OK},
		// Discs have any class.
		{l, []int{6}, []int{0, 3}, 2, known(10), api.Shares{Corks: known(40), Discs: known(40), Rest: known(40)}, api.OK},
		{l, []int{6}, []int{1, 3}, 2, known(10), api.Shares{}, api.ErrOrder},
		{l, []int{6}, []int{3, 0}, 2, known(10), api.Shares{}, api.ErrOrder},
		{l, []int{6}, []int{0, 0}, 2, known(10), api.Shares{}, api.ErrOrder},
		{l, []int{6}, []int{4}, 2, known(10), api.Shares{}, api.ErrRoom},
		{l, []int{6}, []int{5}, 2, known(10), api.Shares{}, api.ErrRoom},
		{l, []int{6}, []int{7}, 2, known(10), api.Shares{}, api.ErrRoom},
		{l, []int{6}, []int{10}, 2, known(10), api.Shares{}, api.ErrRoom},
		{l, []int{6}, []int{10}, 1, known(10), api.Shares{}, api.ErrRoom},
		{l, []int{6}, []int{11}, 1, known(10), api.Shares{Corks: known(40), Discs: known(10), Rest: known(70)}, api.OK},
		{l, []int{6}, []int{0}, 12, known(10), api.Shares{}, api.ErrRoom},
		{l, []int{6}, []int{0}, 13, known(10), api.Shares{}, api.ErrValue},
		{l, []int{6}, []int{11}, 2, known(10), api.Shares{}, api.ErrValue},
		{l, []int{6}, []int{-1}, 2, known(10), api.Shares{}, api.ErrValue},
		{l, []int{6}, []int{0, 11, 4}, 2, known(10), api.Shares{}, api.ErrValue},
		{l, []int{6}, []int{0, 4, 11}, 2, known(10), api.Shares{}, api.ErrRoom},
		{l, []int{6}, []int{0, 1, 4}, 2, known(10), api.Shares{}, api.ErrOrder},
		// Any cork can be in the way, and without a gap cells in common are.
		{lathOf(12, 3, 0, []int{1}), []int{0, 3, 8}, []int{6}, 2, known(1), api.Shares{Corks: known(9), Discs: known(2), Rest: known(1)}, api.OK},
		{lathOf(12, 3, 0, []int{1}), []int{0, 3, 8}, []int{6}, 3, known(1), api.Shares{}, api.ErrRoom},
		{lathOf(12, 3, 0, []int{1}), []int{0, 3, 8}, []int{5}, 1, known(1), api.Shares{}, api.ErrRoom},
		{lathOf(12, 3, 0, []int{1}), []int{0, 3, 8}, []int{9}, 1, known(1), api.Shares{}, api.ErrRoom},
		{lathOf(12, 3, 0, []int{1}), []int{0, 3, 8}, []int{11}, 1, known(1), api.Shares{Corks: known(9), Discs: known(1), Rest: known(2)}, api.OK},
		{lathOf(300, 1, 0, []int{1}), upTo(300), nil, 1, known(100000), api.Shares{Corks: known(30000000)}, api.OK},
	} {
		if s, e := punch.Divide(x.l, x.plan, x.discs, x.width, x.mass); s != x.want || e != x.e {
			t.Error(i, s, e)
		}
	}
}

// P7.5, P0.2: all discs, valid ones and others, as the chapter tells it; and what the pieces of real cells have.
func TestDivideAnyDiscs(t *testing.T) {
	r := rand.New(rand.NewSource(12))
	valid := 0
	for range 2 * often {
		l := someLath(r, size{20, 4, 2, 0, 0})
		plan, width := somePlan(r, l), 1+r.Intn(3)
		plan = plan[:len(plan)/(1+r.Intn(2))]
		var discs []int
		for at := r.Intn(6) - 1; len(discs) < 3 && r.Intn(4) > 0; at += width + l.Gap - 1 + r.Intn(5) {
			discs = append(discs, at)
		}
		want := api.OK
		for i, at := range discs {
			switch {
			case at < 0 || at+width > l.Length:
				want = api.ErrValue
			case i > 0 && at < discs[i-1]+width+l.Gap:
				want = api.ErrOrder
			case !isFree(l, plan, at, width):
				want = api.ErrRoom
			}
			if want != api.OK {
				break
			}
		}
		mass := bounds(r.Intn(5), 5+r.Intn(5))
		s, e := punch.Divide(l, plan, discs, width, mass)
		if e != want {
			t.Fatal(l, plan, discs, width, e, want)
		}
		if e != api.OK {
			continue
		}
		valid++
		real := api.Shares{} // with cells of any mass, as known ones
		for cell := range l.Length {
			in := func(at, width int) bool { return at <= cell && cell < at+width }
			share := &real.Rest
			if slices.ContainsFunc(plan, func(at int) bool { return in(at, l.Width) }) {
				share = &real.Corks
			} else if slices.ContainsFunc(discs, func(at int) bool { return in(at, width) }) {
				share = &real.Discs
			}
			share.Min += within(r, mass)
		}
		if !isIn(real.Corks.Min, s.Corks) || !isIn(real.Discs.Min, s.Discs) || !isIn(real.Rest.Min, s.Rest) {
			t.Fatal(l, plan, discs, width, mass, s, real)
		}
	}
	if valid < often/2 || valid > 2*often-often/4 {
		t.Error("too few of one kind", valid)
	}
}
