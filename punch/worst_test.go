package punch_test

import (
	"math/bits"
	"math/rand"
	"slices"
	"testing"

	"sobreiro/api"
	"sobreiro/punch"
)

// P7.4: the chapter's examples, and which flaws of several.
func TestWorst(t *testing.T) {
	l := exampleLath()
	alike := lathOf(6, 2, 0, []int{9, 4, 0},
		flaw(known(0), known(1), 1, false), flaw(known(2), known(3), 1, false), flaw(known(2), known(4), 1, false), flaw(known(4), known(5), 2, false), flaw(known(0), known(2), 1, true))
	for i, x := range []struct {
		l     api.Lath
		plan  []int
		many  int
		flaws []int
		worth int
	}{
		{l, []int{0, 6}, 0, nil, 11},
		{l, []int{0, 6}, 1, []int{1}, 7},
		{l, []int{0, 6}, 10, []int{1}, 7},
		{l, []int{0}, 1, nil, 1}, // it does not touch the other one
		{l, nil, 10, nil, 0},
		{l, []int{6}, 0, nil, 10}, // the flaw that is sure has 5 as its last cell
		{l, []int{5}, 0, nil, 1},
		{l, []int{5}, 10, nil, 1}, // the other one is not worse
		{changed(func(l *api.Lath) { l.Flaws[0].Sure = false }), []int{5}, 0, nil, 10},
		{changed(func(l *api.Lath) { l.Flaws[0].Sure = false }), []int{5}, 1, []int{0}, 1},
		{changed(func(l *api.Lath) { l.Flaws[0].Sure = false }), []int{0, 6}, 1, []int{0}, 11},
		{changed(func(l *api.Lath) { l.Flaws[0].Sure = false }), []int{0, 6}, 2, []int{0, 1}, 7},
		{alike, []int{0, 2, 4}, 0, nil, 22},
		{alike, []int{0, 2, 4}, 1, []int{3}, 13},
		{alike, []int{0, 2, 4}, 2, []int{1, 3}, 8},
		{alike, []int{0, 2, 4}, 3, []int{1, 3}, 8},
		{alike, []int{0, 2}, 1, []int{1}, 8},
		{alike, []int{0, 3}, 1, []int{3}, 4},
		{alike, []int{0, 3}, 10, []int{3}, 4},
		{alike, []int{1, 3}, 10, []int{3}, 4},
		{alike, []int{4}, 10, []int{3}, 0},
		// One flaw that touches two corks is as bad as two; fewer flaws go before a lesser list.
		{lathOf(4, 2, 0, []int{9, 4}, flaw(known(0), known(1), 1, false), flaw(known(3), known(4), 1, false), flaw(known(1), known(3), 1, false)), []int{0, 2}, 2, []int{2}, 8},
		{lathOf(4, 2, 0, []int{9, 4}, flaw(known(0), known(1), 1, false), flaw(known(3), known(4), 1, false), flaw(known(1), known(2), 1, false)), []int{0, 2}, 2, []int{0, 1}, 8},
		// Classes that have one price, and flaws that cover all that they can.
		{lathOf(4, 2, 0, []int{4, 4}, flaw(known(0), known(4), 1, false)), []int{0, 2}, 2, nil, 8},
		{lathOf(4, 2, 0, []int{9, 0}, flaw(bounds(0, 1), bounds(2, 4), 1, false)), []int{0, 2}, 1, []int{0}, 0},
		{lathOf(4, 2, 0, []int{9, 0}, flaw(bounds(0, 1), bounds(2, 4), 1, true)), []int{0, 2}, 0, nil, 0},
	} {
		if flaws, worth, e := punch.Worst(x.l, x.plan, x.many); !slices.Equal(flaws, x.flaws) || worth != x.worth || e != api.OK {
			t.Error(i, flaws, worth, e)
		}
	}
}

// worstOf returns what Worst has to return: it tries all sets of flaws.
func worstOf(l api.Lath, plan []int, many int) (best []int, worth int) {
	worth = -1
	for set := range uint(1) << len(l.Flaws) {
		var there []realFlaw
		var chosen []int
		for i, f := range l.Flaws {
			if set>>i&1 == 1 {
				there = append(there, realFlaw{i, f.From.Min, f.To.Max, f.Grade})
				if !f.Sure {
					chosen = append(chosen, i)
				}
			}
		}
		if len(chosen) > many || bits.OnesCount(set) != len(chosen)+sures(l) {
			continue
		}
		w := realWorth(l, there, plan)
		if worth < 0 || w < worth || w == worth && (len(chosen) < len(best) || len(chosen) == len(best) && slices.Compare(chosen, best) < 0) {
			best, worth = chosen, w
		}
	}
	return best, worth
}

// sures is how many flaws are sure.
func sures(l api.Lath) (many int) {
	for _, f := range l.Flaws {
		if f.Sure {
			many++
		}
	}
	return many
}

// P7.4, P0.3: all sets of flaws.
func TestWorstOfAll(t *testing.T) {
	r := rand.New(rand.NewSource(8))
	for i := range often {
		s := size{20, 4, 2, 5, 4}
		if i%10 == 0 {
			s = full()
		}
		l := someLath(r, s)
		plan, many := somePlan(r, l), r.Intn(api.MaxFlaws+1)
		if i%2 == 0 {
			many = r.Intn(4)
		}
		wantFlaws, wantWorth := worstOf(l, plan, many)
		if flaws, worth, e := punch.Worst(l, plan, many); !slices.Equal(flaws, wantFlaws) || worth != wantWorth || e != api.OK {
			t.Fatal(l, plan, many, flaws, worth, e, wantFlaws, wantWorth)
		}
	}
}

// P7.6: whatever the real flaws are, if they are not too many, a plan is not worth less, and it can be worth so little.
func TestWorstIsReal(t *testing.T) {
	r := rand.New(rand.NewSource(9))
	for range often {
		told := taleOf(someLath(r, small()))
		plan, many := somePlan(r, told.Lath), r.Intn(4)
		_, worth, e := punch.Worst(told.Lath, plan, many)
		least := -1
		for _, there := range told.reals {
			if unsure(told.Lath, there) > many {
				continue
			}
			if w := realWorth(told.Lath, there, plan); least < 0 || w < least {
				least = w
			}
		}
		if worth != least || e != api.OK {
			t.Fatal(told.Lath, plan, many, worth, e, least)
		}
	}
	for range often / 4 {
		l := someLath(r, full())
		plan, there := somePlan(r, l), someReal(r, l)
		if _, worth, e := punch.Worst(l, plan, unsure(l, there)); realWorth(l, there, plan) < worth || e != api.OK {
			t.Fatal(l, plan, there, worth, e)
		}
	}
}

// P7.4: the greatest lath, with all flaws unsure.
func TestWorstOfFullLath(t *testing.T) {
	l := lathOf(300, 1, 0, []int{10000, 9999, 9998, 9997, 9996, 0})
	for i := range api.MaxFlaws {
		l.Flaws = append(l.Flaws, flaw(bounds(0, 30*i), bounds(30*i+1, 300), 1+i%5, false))
	}
	for range 20 {
		if flaws, worth, e := punch.Worst(l, upTo(300), 10); !slices.Equal(flaws, []int{4}) || worth != 0 || e != api.OK {
			t.Fatal(flaws, worth, e)
		}
	}
}
