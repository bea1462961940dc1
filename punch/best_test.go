package punch_test

import (
	"math/rand"
	"slices"
	"testing"

	"sobreiro/api"
	"sobreiro/punch"
)

// P7.2: the chapter's example, and which one of several plans.
func TestBest(t *testing.T) {
	for i, x := range []struct {
		l     api.Lath
		plan  []int
		worth api.Bounds
	}{
		{exampleLath(), []int{0, 6}, bounds(7, 20)},
		// The least of several, and no cork that is worth nothing behind the others, but one before them: its list is less.
		{api.Lath{Length: 9, Width: 3, Gap: 1, Prices: []int{5}}, []int{0, 4}, known(10)},
		{api.Lath{Length: 9, Width: 3, Gap: 1, Prices: []int{0}}, nil, known(0)},
		{lathOf(5, 2, 0, []int{5, 0}, flaw(known(0), known(2), 1, true)), []int{0, 2}, known(5)},
		{lathOf(5, 2, 0, []int{5, 0}, flaw(known(2), known(5), 1, true)), []int{0}, known(5)},
		{lathOf(6, 2, 1, []int{5, 0}, flaw(known(0), known(2), 1, true)), []int{0, 3}, known(5)},
		{lathOf(5, 2, 2, []int{5, 0}, flaw(known(0), known(2), 1, true)), []int{2}, known(5)},
		// Min goes before Max, and Max before the least list.
		{lathOf(4, 2, 1, []int{9, 4, 0}, flaw(known(0), known(1), 2, false), flaw(known(2), known(3), 1, true)), []int{1}, known(4)},
		{lathOf(4, 2, 1, []int{9, 4, 0}, flaw(known(0), known(2), 1, true), flaw(known(3), known(4), 1, false)), []int{2}, bounds(4, 9)},
		{lathOf(3, 1, 5, []int{9, 4, 0}, flaw(known(0), known(1), 1, true), flaw(known(1), known(3), 1, false)), []int{1}, bounds(4, 9)},
		{lathOf(3, 1, 5, []int{9, 0}, flaw(known(0), known(3), 1, true)), nil, known(0)},
		{lathOf(3, 1, 5, []int{9, 0}, flaw(known(1), known(3), 1, false), flaw(known(0), known(1), 1, true)), []int{1}, bounds(0, 9)},
		{lathOf(3, 1, 1, []int{9, 0}, flaw(known(1), known(3), 1, false), flaw(known(0), known(1), 1, true)), []int{0, 2}, bounds(0, 9)},
		// A cork as long as the lath, one that is longer, and one that is worth more than two others.
		{lathOf(12, 12, 10, []int{9}), []int{0}, known(9)},
		{lathOf(12, 13, 0, []int{9}), nil, known(0)},
		{lathOf(1, 1, 10, []int{9}), []int{0}, known(9)},
		{lathOf(6, 2, 0, []int{9, 1}, flaw(known(0), known(2), 1, true), flaw(known(4), known(6), 1, true)), []int{0, 2, 4}, known(11)},
		{lathOf(5, 2, 0, []int{9, 1}, flaw(known(0), known(1), 1, true), flaw(known(4), known(5), 1, true)), []int{0, 2}, known(10)},
		{lathOf(5, 2, 1, []int{9, 1}, flaw(known(0), known(1), 1, true), flaw(known(4), known(5), 1, true)), []int{1}, known(9)},
		{lathOf(300, 1, 0, []int{10000}), upTo(300), known(3000000)},
	} {
		if plan, worth, e := punch.Best(x.l); !slices.Equal(plan, x.plan) || worth != x.worth || e != api.OK {
			t.Error(i, plan, worth, e)
		}
	}
}

func lathOf(length, width, gap int, prices []int, flaws ...api.Flaw) api.Lath {
	return api.Lath{Length: length, Width: width, Gap: gap, Prices: prices, Flaws: flaws}
}

// P7.2, P0.3: all plans of small laths are counted out.
func TestBestOfAll(t *testing.T) {
	r := rand.New(rand.NewSource(3))
	for range often {
		told := taleOf(someLath(r, small()))
		wantPlan, wantWorth := told.best()
		if plan, worth, e := punch.Best(told.Lath); !slices.Equal(plan, wantPlan) || worth != wantWorth || e != api.OK {
			t.Fatal(told.Lath, plan, worth, e, wantPlan, wantWorth)
		}
	}
}

// values returns, for each cell, the most that corks from there on are worth, and the least of the lists of those that are.
func values(l api.Lath) (plan []int, worth api.Bounds) {
	const weight = 10000000 // more than the Max of any plan
	alone := func(at int) int {
		v, _ := punch.Value(l, []int{at})
		return weight*v.Min + v.Max
	}
	step, most := l.Width+l.Gap, make([]int, l.Length+l.Gap+1)
	for at := l.Length - l.Width; at >= 0; at-- {
		most[at] = max(most[at+1], alone(at)+most[at+step])
	}
	for at := 0; at <= l.Length-l.Width && most[at] > 0; {
		if alone(at)+most[at+step] == most[at] {
			plan = append(plan, at)
			at += step
		} else {
			at++
		}
	}
	return plan, bounds(most[0]/weight, most[0]%weight)
}

// P7.2, P7.3, P7.7: laths of all sizes.
func TestBestOfLongLaths(t *testing.T) {
	r := rand.New(rand.NewSource(4))
	for i := range often {
		s := full()
		if i%2 == 0 {
			s.width, s.gap = 3, 2 // many corks
		}
		l := someLath(r, s)
		if i%10 == 0 {
			l.Length = 300
		}
		wantPlan, wantWorth := values(l)
		plan, worth, e := punch.Best(l)
		if !slices.Equal(plan, wantPlan) || worth != wantWorth || e != api.OK {
			t.Fatal(l, plan, worth, e, wantPlan, wantWorth)
		}
		if v, e := punch.Value(l, plan); v != worth || e != api.OK {
			t.Fatal(l, plan, worth, v, e)
		}
		rents, e := punch.Rents(l)
		if total, ok, f := punch.Proves(l, rents); total != worth.Min || !ok || e != api.OK || f != api.OK {
			t.Fatal(l, worth, rents, total, ok, e, f)
		}
	}
}

// P7.3: the chapter's example, and laths with few corks.
func TestRents(t *testing.T) {
	for i, x := range []struct {
		l    api.Lath
		want []int
	}{
		{exampleLath(), []int{0, 0, 0, 0, 1, 0, 0, 0, 0, 1, 5, 0, 0}},
		{lathOf(1, 1, 0, []int{7}), []int{7}},
		{lathOf(1, 1, 2, []int{7}), []int{0, 0, 7}},
		{lathOf(2, 3, 2, []int{7}), []int{0, 0, 0, 0}},
		{lathOf(3, 3, 2, []int{7}), []int{0, 0, 0, 0, 7}},
		{lathOf(4, 1, 0, []int{7, 3}, flaw(known(1), known(2), 1, false)), []int{7, 3, 7, 7}},
		{lathOf(4, 2, 0, []int{7, 3}, flaw(known(0), known(1), 1, true)), []int{0, 3, 4, 3}},
		{lathOf(4, 2, 0, []int{7, 0}, flaw(known(0), known(4), 1, false)), []int{0, 0, 0, 0}},
	} {
		if l, e := punch.Rents(x.l); !slices.Equal(l, x.want) || e != api.OK {
			t.Error(i, l, e)
		}
	}
}

// P7.3: rents of small laths, with all plans within their first cells counted out.
func TestRentsOfAll(t *testing.T) {
	r := rand.New(rand.NewSource(5))
	for range often {
		told := taleOf(someLath(r, small()))
		most := make([]int, told.Length+told.Gap+1)
		for plan := range plans(told.Lath) {
			if len(plan) == 0 {
				continue
			}
			cells := plan[len(plan)-1] + told.Width + told.Gap
			worth := told.value(plan).Min
			for n := cells; n < len(most); n++ {
				most[n] = max(most[n], worth)
			}
		}
		rents, e := punch.Rents(told.Lath)
		if len(rents) != told.Length+told.Gap || e != api.OK {
			t.Fatal(told.Lath, rents, e)
		}
		for n, rent := range rents {
			if rent != most[n+1]-most[n] {
				t.Fatal(told.Lath, rents, most)
			}
		}
	}
}

// P7.3: what proves, and what does not.
func TestProves(t *testing.T) {
	l := exampleLath()
	rents := []int{0, 0, 0, 0, 1, 0, 0, 0, 0, 1, 5, 0, 0}
	with := func(n, rent int) []int {
		m := slices.Clone(rents)
		m[n] = rent
		return m
	}
	for i, x := range []struct {
		l     api.Lath
		rents []int
		total int
		ok    bool
		e     api.Errno
	}{
		{l, rents, 7, true, api.OK},
		{l, with(10, 4), 6, false, api.OK},
		{l, with(4, 0), 6, false, api.OK},
		{l, with(9, 0), 6, false, api.OK},
		{l, with(0, 1), 8, true, api.OK},
		{l, with(12, 10000), 10007, true, api.OK},
		{l, with(12, 10001), 0, false, api.ErrValue},
		{l, with(0, -1), 0, false, api.ErrValue},
		{l, with(12, -1), 0, false, api.ErrValue},
		{l, rents[:12], 0, false, api.ErrCount},
		{l, append(with(0, -1), 0), 0, false, api.ErrCount},
		{l, nil, 0, false, api.ErrCount},
		{l, make([]int, 13), 0, false, api.OK},
		{l, slices.Repeat([]int{1}, 13), 13, false, api.OK}, // the cork at 6 is surely worth 6
		{l, slices.Repeat([]int{2}, 13), 26, true, api.OK},
		// The last cork's rents are also those of the gap after it.
		{lathOf(3, 2, 2, []int{7}), []int{0, 0, 0, 7, 0}, 7, true, api.OK},
		{lathOf(3, 2, 2, []int{7}), []int{0, 0, 0, 6, 1}, 7, false, api.OK},
		{lathOf(3, 2, 2, []int{7}), []int{1, 0, 0, 6, 1}, 8, true, api.OK},
		{lathOf(3, 2, 2, []int{7}), []int{0, 0, 0, 0, 7}, 7, false, api.OK},
		{lathOf(3, 2, 2, []int{7}), []int{7, 0, 0, 0, 0}, 7, false, api.OK},
		// There is no cork.
		{lathOf(2, 3, 1, []int{7}), []int{0, 0, 0}, 0, true, api.OK},
		{lathOf(2, 3, 1, []int{7}), []int{0, 5, 0}, 5, true, api.OK},
		// What corks can be worth at most does not matter.
		{lathOf(1, 1, 0, []int{7, 2}, flaw(known(0), known(1), 1, false)), []int{2}, 2, true, api.OK},
		{lathOf(1, 1, 0, []int{7, 2}, flaw(known(0), known(1), 1, false)), []int{1}, 1, false, api.OK},
		{lathOf(300, 60, 10, []int{10000}), slices.Repeat([]int{10000}, 310), 3100000, true, api.OK},
	} {
		if total, ok, e := punch.Proves(x.l, x.rents); total != x.total || ok != x.ok || e != x.e {
			t.Error(i, total, ok, e)
		}
	}
}

// P7.3, P7.7, P0.3: whatever rents are, if they prove it, no plan is surely worth more than their sum.
func TestProofs(t *testing.T) {
	r := rand.New(rand.NewSource(6))
	proofs := 0
	for range 2 * often {
		told := taleOf(someLath(r, small()))
		rents, _ := punch.Rents(told.Lath)
		for i := range rents {
			if r.Intn(5) == 0 {
				rents[i] = max(0, min(rents[i]+r.Intn(5)-2, api.MaxPaid))
			}
		}
		want, sum := true, 0
		for at := 0; at <= told.Length-told.Width; at++ {
			paid := 0
			for cell := at; cell < at+told.Width+told.Gap; cell++ {
				paid += rents[cell]
			}
			want = want && told.value([]int{at}).Min <= paid
		}
		for _, rent := range rents {
			sum += rent
		}
		total, ok, e := punch.Proves(told.Lath, rents)
		if total != sum || ok != want || e != api.OK {
			t.Fatal(told.Lath, rents, total, ok, e)
		}
		if !ok {
			continue
		}
		proofs++
		for plan := range plans(told.Lath) {
			if v, _ := punch.Value(told.Lath, plan); v.Min > total {
				t.Fatal(told.Lath, rents, plan, v, total)
			}
		}
	}
	if proofs < often || proofs > 2*often-often/10 {
		t.Error("too few of one kind", proofs)
	}
}

// worse returns a lath with one more flaw, a flaw of a greater grade or one with wider bounds.
func worse(r *rand.Rand, l api.Lath) api.Lath {
	l = copyOf(l)
	if len(l.Prices) == 1 {
		return l
	}
	if len(l.Flaws) == 0 || len(l.Flaws) < api.MaxFlaws && r.Intn(3) == 0 {
		l.Flaws = append(l.Flaws, someFlaw(r, l, 5))
		return l
	}
	f := &l.Flaws[r.Intn(len(l.Flaws))]
	switch r.Intn(5) {
	case 0:
		f.Grade += r.Intn(len(l.Prices) - f.Grade)
	case 1:
		f.From.Min -= r.Intn(f.From.Min + 1)
	case 2:
		f.From.Max += r.Intn(f.To.Min - f.From.Max)
	case 3:
		f.To.Min -= r.Intn(f.To.Min - f.From.Max)
	default:
		f.To.Max += r.Intn(l.Length - f.To.Max + 1)
	}
	return l
}

// better returns a lath that is longer, that needs smaller gaps or has higher prices.
func better(r *rand.Rand, l api.Lath) api.Lath {
	l = copyOf(l)
	switch r.Intn(3) {
	case 0:
		l.Length += r.Intn(min(20, api.MaxLath-l.Length) + 1)
	case 1:
		l.Gap -= r.Intn(l.Gap + 1)
	default:
		i := r.Intn(len(l.Prices))
		most := api.MaxPaid
		if i > 0 {
			most = l.Prices[i-1]
		}
		l.Prices[i] += r.Intn(most - l.Prices[i] + 1)
	}
	return l
}

// P7.8: what never raises the best plan's Min, and what never lowers it.
func TestConsequences(t *testing.T) {
	r := rand.New(rand.NewSource(7))
	for i := range 2 * often {
		s := small()
		if i%3 == 0 {
			s = size{80, 20, 10, api.MaxFlaws, 10}
		}
		l := someLath(r, s)
		a, b := worse(r, l), better(r, l)
		if punch.Check(a) != api.OK || punch.Check(b) != api.OK {
			t.Fatal(l, a, b)
		}
		if n := bestMin(l); bestMin(a) > n || bestMin(b) < n {
			t.Fatal(l, n, a, bestMin(a), b, bestMin(b))
		}
	}
}
