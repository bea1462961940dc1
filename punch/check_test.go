package punch_test

import (
	"math"
	"math/rand"
	"slices"
	"strings"
	"testing"

	"sobreiro/api"
	"sobreiro/punch"
)

// fullLath has as much of everything as a lath can have, at the ends of all ranges.
func fullLath() api.Lath {
	l := lathOf(300, 60, 10, []int{10000, 10000, 9999, 1, 0, 0})
	for i := range api.MaxFlaws {
		l.Flaws = append(l.Flaws, flaw(bounds(0, 298), bounds(299, 300), 1+i%5, i%2 == 0))
	}
	return l
}

// P7.1: what is within its range, at its ends too, is valid.
func TestChecksAccept(t *testing.T) {
	for i, l := range []api.Lath{
		exampleLath(), fullLath(),
		lathOf(1, 1, 0, []int{0}), lathOf(1, 60, 10, []int{10000}), lathOf(300, 1, 0, []int{5, 5, 5, 5, 5, 5}),
		lathOf(1, 1, 0, []int{1, 0}, flaw(known(0), known(1), 1, true)),
		lathOf(300, 1, 0, []int{1, 0}, flaw(known(299), known(300), 1, false), flaw(known(0), known(1), 1, false)),
		// Flaws can lie on one another, and be seen twice.
		changed(func(l *api.Lath) { l.Flaws = slices.Repeat(l.Flaws, 5) }),
		changed(func(l *api.Lath) { l.Flaws[0].From = bounds(0, 4) }),
		changed(func(l *api.Lath) { l.Flaws[0].To = bounds(5, 12) }),
	} {
		if e := punch.Check(l); e != api.OK {
			t.Error(i, e)
		}
		if _, _, e := punch.Best(l); e != api.OK {
			t.Error(i, e)
		}
	}
}

// P7.1, R1: lists are checked one after the other, and element by element.
func TestListErrors(t *testing.T) {
	for i, x := range []struct {
		change func(l *api.Lath)
		want   api.Errno
	}{
		{func(l *api.Lath) { l.Length = 0 }, api.ErrValue},
		{func(l *api.Lath) { l.Length = 11 }, api.ErrValue}, // of the flaw that can end at 12
		{func(l *api.Lath) { l.Length = 301 }, api.ErrValue},
		{func(l *api.Lath) { l.Width = 0 }, api.ErrValue},
		{func(l *api.Lath) { l.Width = 61 }, api.ErrValue},
		{func(l *api.Lath) { l.Gap = -1 }, api.ErrValue},
		{func(l *api.Lath) { l.Gap = 11 }, api.ErrValue},
		{func(l *api.Lath) { l.Prices = nil }, api.ErrCount},
		{func(l *api.Lath) { l.Prices = make([]int, 7) }, api.ErrCount},
		{func(l *api.Lath) { l.Prices = make([]int, 6) }, api.OK},
		{func(l *api.Lath) { l.Prices = []int{-1, -1, -1, -1, -1, -1, -1} }, api.ErrCount},
		{func(l *api.Lath) { l.Prices = []int{10, 6} }, api.ErrValue}, // of the flaw of the grade 2
		{func(l *api.Lath) { l.Prices = []int{10} }, api.ErrValue},
		{func(l *api.Lath) { l.Prices, l.Flaws = []int{10}, nil }, api.OK},
		{func(l *api.Lath) { l.Prices, l.Flaws = []int{10}, l.Flaws[1:] }, api.ErrValue},
		{func(l *api.Lath) { l.Prices, l.Flaws = []int{10, 6}, l.Flaws[1:] }, api.OK},
		{func(l *api.Lath) { l.Prices = []int{10, 10, 10} }, api.OK},
		{func(l *api.Lath) { l.Prices = []int{10, 11, -1} }, api.ErrOrder},
		{func(l *api.Lath) { l.Prices = []int{10, -1, 11} }, api.ErrValue},
		{func(l *api.Lath) { l.Prices = []int{10, 10001, 1} }, api.ErrValue},
		{func(l *api.Lath) { l.Prices = []int{10001, 10, 1} }, api.ErrValue},
		{func(l *api.Lath) { l.Prices = []int{5, 6, 7} }, api.ErrOrder},
		{func(l *api.Lath) { l.Prices, l.Flaws = []int{5, 6}, make([]api.Flaw, 11) }, api.ErrOrder},
		{func(l *api.Lath) { l.Flaws = make([]api.Flaw, 11) }, api.ErrCount},
		{func(l *api.Lath) { l.Flaws = make([]api.Flaw, 10) }, api.ErrValue},
		{func(l *api.Lath) { l.Flaws[0].Grade = 0 }, api.ErrValue},
		{func(l *api.Lath) { l.Flaws[0].Grade = 3 }, api.ErrValue},
		{func(l *api.Lath) { l.Flaws[0].From = bounds(4, 3) }, api.ErrValue},
		{func(l *api.Lath) { l.Flaws[0].To = bounds(6, 5) }, api.ErrValue},
		{func(l *api.Lath) { l.Flaws[0].From = bounds(-1, 3) }, api.ErrValue},
		{func(l *api.Lath) { l.Flaws[0].To = bounds(5, 13) }, api.ErrValue},
		{func(l *api.Lath) { l.Flaws[0].From = bounds(3, 5) }, api.ErrOrder},
		{func(l *api.Lath) { l.Flaws[0].From = bounds(3, 6) }, api.ErrOrder},
		{func(l *api.Lath) { l.Flaws[0].To = bounds(4, 6) }, api.ErrOrder},
		{func(l *api.Lath) { l.Flaws[0].To = known(0) }, api.ErrOrder},
		{func(l *api.Lath) { l.Flaws[0].From = known(12) }, api.ErrOrder},
		// The first flaw with an error decides.
		{func(l *api.Lath) { l.Flaws[0].From, l.Flaws[1].Grade = bounds(3, 5), 0 }, api.ErrOrder},
		{func(l *api.Lath) { l.Flaws[1].From, l.Flaws[0].Grade = bounds(3, 10), 0 }, api.ErrValue},
		{func(l *api.Lath) { l.Flaws[0].From, l.Flaws[0].Grade = bounds(3, 5), 0 }, api.ErrValue},
	} {
		l := changed(x.change)
		if e := punch.Check(l); e != x.want {
			t.Error(i, e)
		}
	}
}

// call is what the functions are asked with.
type call struct {
	l                  api.Lath
	at                 int
	plan, discs, rents []int
	many, width, class int
	mass               api.Bounds
}

// exampleCall has room for two discs between its corks.
func exampleCall() call {
	return call{
		l:     changed(func(l *api.Lath) { l.Length = 24 }),
		at:    3,
		plan:  []int{0, 6, 19},
		discs: []int{11, 15},
		rents: make([]int, 25),
		many:  3, width: 3, class: 1,
		mass: bounds(5, 6),
	}
}

// mistake makes a call invalid.
type mistake func(x *call)

// check is what the functions look at in one go: mistakes that it finds, and its error.
type check struct {
	e        api.Errno
	mistakes []mistake
}

func lathChecks() (l []check) {
	value := check{e: api.ErrValue}
	for _, n := range outside(1, api.MaxLath) {
		value.mistakes = append(value.mistakes, func(x *call) { x.l.Length = n })
	}
	for _, n := range outside(1, api.MaxPunch) {
		value.mistakes = append(value.mistakes, func(x *call) { x.l.Width = n })
	}
	for _, n := range outside(0, api.MaxGap) {
		value.mistakes = append(value.mistakes, func(x *call) { x.l.Gap = n })
	}
	l = append(l, value, check{api.ErrCount, []mistake{
		func(x *call) { x.l.Prices = nil },
		func(x *call) { x.l.Prices = []int{} },
		func(x *call) { x.l.Prices = append(x.l.Prices, 0, 0, 0, 0) },
		func(x *call) { x.l.Prices = make([]int, 1000) },
	}})
	for price := range 3 {
		l = append(l, priceChecks(price)...)
	}
	l = append(l, check{api.ErrCount, []mistake{
		func(x *call) { x.l.Flaws = append(x.l.Flaws, make([]api.Flaw, 9)...) },
		func(x *call) { x.l.Flaws = append(x.l.Flaws, make([]api.Flaw, 1000)...) },
	}})
	return slices.Concat(l, flawChecks(0), flawChecks(1))
}

func priceChecks(price int) []check {
	value, order := check{e: api.ErrValue}, check{e: api.ErrOrder}
	for _, n := range outside(0, api.MaxPaid) {
		value.mistakes = append(value.mistakes, func(x *call) { x.l.Prices[price] = n })
	}
	if price > 0 {
		order.mistakes = []mistake{func(x *call) { x.l.Prices[price] = 11 }, func(x *call) { x.l.Prices[price] = api.MaxPaid }}
	}
	return []check{value, order}
}

func flawChecks(number int) []check {
	at := func(change func(f *api.Flaw)) mistake { return func(x *call) { change(&x.l.Flaws[number]) } }
	value := check{e: api.ErrValue}
	for _, b := range []api.Bounds{bounds(-1, 3), bounds(3, 25), known(25), known(-1), bounds(4, 3), bounds(math.MinInt, 3), bounds(3, math.MaxInt), bounds(math.MaxInt, math.MinInt)} {
		value.mistakes = append(value.mistakes, at(func(f *api.Flaw) { f.From = b }), at(func(f *api.Flaw) { f.To = b }))
	}
	for _, n := range outside(1, 2) {
		value.mistakes = append(value.mistakes, at(func(f *api.Flaw) { f.Grade = n }))
	}
	return []check{value, {api.ErrOrder, []mistake{
		at(func(f *api.Flaw) { f.From.Max = f.To.Min }),
		at(func(f *api.Flaw) { f.From.Max = 24 }),
		at(func(f *api.Flaw) { f.To.Min = 0 }),
	}}}
}

// listChecks returns the checks of a list of three or two positions: each is looked at by itself, and then with the one before it.
func listChecks(list func(x *call) []int, last int, near ...[]int) (l []check) {
	for i, tooNear := range near {
		value, order := check{e: api.ErrValue}, check{e: api.ErrOrder}
		for _, n := range outside(0, last) {
			value.mistakes = append(value.mistakes, func(x *call) { list(x)[i] = n })
		}
		for _, n := range tooNear {
			order.mistakes = append(order.mistakes, func(x *call) { list(x)[i] = n })
		}
		l = append(l, value, order)
	}
	return l
}

func planChecks() []check {
	return slices.Concat(lathChecks(), listChecks(func(x *call) []int { return x.plan }, 20, nil, []int{0, 4}, []int{0, 6, 10}))
}

func discChecks() []check {
	l := listChecks(func(x *call) []int { return x.discs }, 21, nil, []int{0, 11, 14, 8})
	at := func(disc, n int) mistake { return func(x *call) { x.discs[disc] = n } }
	first := check{api.ErrRoom, []mistake{at(0, 0), at(0, 4), at(0, 6), at(0, 10)}}
	second := check{api.ErrRoom, []mistake{at(1, 16), at(1, 17), at(1, 19), at(1, 21)}}
	return slices.Concat(l[:2], []check{first}, l[2:], []check{second})
}

// numberCheck returns the check of a number.
func numberCheck(low, high int, change func(x *call, n int)) check {
	c := check{e: api.ErrValue}
	for _, n := range outside(low, high) {
		c.mistakes = append(c.mistakes, func(x *call) { change(x, n) })
	}
	return c
}

func widthCheck() check {
	return numberCheck(1, api.MaxLath, func(x *call, n int) { x.width = n })
}

func massCheck() check {
	c := check{e: api.ErrValue}
	for _, b := range []api.Bounds{bounds(-1, 3), bounds(3, 100001), known(100001), bounds(4, 3), bounds(math.MinInt, 3), bounds(3, math.MaxInt), bounds(math.MaxInt, math.MinInt)} {
		c.mistakes = append(c.mistakes, func(x *call) { x.mass = b })
	}
	return c
}

func rentChecks() []check {
	count, value := check{e: api.ErrCount}, check{e: api.ErrValue}
	for _, n := range []int{0, 1, 24, 26, 1000} {
		count.mistakes = append(count.mistakes, func(x *call) { x.rents = make([]int, n) }, func(x *call) { x.rents = slices.Repeat([]int{-1}, n) })
	}
	for _, n := range outside(0, api.MaxPaid) {
		value.mistakes = append(value.mistakes, func(x *call) { x.rents[0] = n }, func(x *call) { x.rents[24] = n })
	}
	return []check{count, value}
}

// ordered checks a function: each mistake has its error, and of two the one of the earlier check decides.
func ordered(t *testing.T, name string, checks []check, ask func(x call) (zero bool, e api.Errno)) {
	t.Helper()
	if _, e := ask(exampleCall()); e != api.OK {
		t.Error(name, "without a mistake", e)
	}
	for i, first := range checks {
		for n, a := range first.mistakes {
			x := exampleCall()
			a(&x)
			if zero, e := ask(x); !zero || e != first.e {
				t.Error(name, i, n, zero, e)
			}
			for j, later := range checks[i+1:] {
				for m, b := range later.mistakes {
					x := exampleCall()
					b(&x)
					a(&x)
					if zero, e := ask(x); !zero || e != first.e {
						t.Error(name, i, n, "before", i+1+j, m, zero, e)
					}
				}
			}
		}
	}
}

// P7.1 to P7.5, P0.1: the errors of all functions, in their order, and zero values with them.
func TestErrors(t *testing.T) {
	of, planned := lathChecks(), planChecks()
	ordered(t, "Check", of, func(x call) (bool, api.Errno) { return true, punch.Check(x.l) })
	ordered(t, "Class", append(lathChecks(), numberCheck(0, 20, func(x *call, n int) { x.at = n })), func(x call) (bool, api.Errno) {
		a, b, e := punch.Class(x.l, x.at)
		return a == 0 && b == 0, e
	})
	ordered(t, "Value", planned, func(x call) (bool, api.Errno) {
		v, e := punch.Value(x.l, x.plan)
		return v == api.Bounds{}, e
	})
	ordered(t, "Best", of, func(x call) (bool, api.Errno) {
		l, v, e := punch.Best(x.l)
		return l == nil && v == api.Bounds{}, e
	})
	ordered(t, "Rents", of, func(x call) (bool, api.Errno) {
		l, e := punch.Rents(x.l)
		return l == nil, e
	})
	ordered(t, "Proves", slices.Concat(of, rentChecks()), func(x call) (bool, api.Errno) {
		total, ok, e := punch.Proves(x.l, x.rents)
		return total == 0 && !ok, e
	})
	many := numberCheck(0, api.MaxFlaws, func(x *call, n int) { x.many = n })
	ordered(t, "Worst", append(planChecks(), many), func(x call) (bool, api.Errno) {
		l, worth, e := punch.Worst(x.l, x.plan, x.many)
		return l == nil && worth == 0, e
	})
	kind := widthCheck()
	kind.mistakes = append(kind.mistakes, numberCheck(0, 2, func(x *call, n int) { x.class = n }).mistakes...)
	ordered(t, "Discs", append(planChecks(), kind), func(x call) (bool, api.Errno) {
		l, e := punch.Discs(x.l, x.plan, x.width, x.class)
		return l == nil, e
	})
	ordered(t, "Divide", slices.Concat(planned, []check{widthCheck()}, discChecks(), []check{massCheck()}), func(x call) (bool, api.Errno) {
		s, e := punch.Divide(x.l, x.plan, x.discs, x.width, x.mass)
		return s == api.Shares{}, e
	})
	ordered(t, "Print", of, func(x call) (bool, api.Errno) {
		s, e := punch.Print(x.l)
		return s == "", e
	})
}

// P0.1: whatever is asked, there is an answer, and no other result with an error.
func TestAnyArguments(t *testing.T) {
	r := rand.New(rand.NewSource(13))
	all := slices.Concat(planChecks(), discChecks(), []check{widthCheck(), massCheck()}, rentChecks())
	for range 2 * often {
		x := exampleCall()
		for _, c := range slices.Backward(all) {
			if len(c.mistakes) > 0 && r.Intn(30) == 0 {
				c.mistakes[r.Intn(len(c.mistakes))](&x)
			}
		}
		x.at, x.many, x.class = r.Intn(30)-5, r.Intn(14)-2, r.Intn(5)-1
		e := punch.Check(x.l)
		if a, b, e := punch.Class(x.l, x.at); a > b || e != api.OK && (a != 0 || b != 0) {
			t.Fatal(x, a, b, e)
		}
		if v, e := punch.Value(x.l, x.plan); v.Min > v.Max || e != api.OK && v != (api.Bounds{}) {
			t.Fatal(x, v, e)
		}
		if l, v, f := punch.Best(x.l); f != e || e != api.OK && (l != nil || v != api.Bounds{}) {
			t.Fatal(x, l, v, f)
		}
		if l, f := punch.Rents(x.l); f != e || (e == api.OK) != (len(l) > 0) {
			t.Fatal(x, l, f)
		}
		if total, ok, e := punch.Proves(x.l, x.rents); e != api.OK && (total != 0 || ok) {
			t.Fatal(x, total, ok, e)
		}
		if l, worth, e := punch.Worst(x.l, x.plan, x.many); e != api.OK && (l != nil || worth != 0) {
			t.Fatal(x, l, worth, e)
		}
		if l, e := punch.Discs(x.l, x.plan, x.width, x.class); e != api.OK && l != nil {
			t.Fatal(x, l, e)
		}
		if s, e := punch.Divide(x.l, x.plan, x.discs, x.width, x.mass); (e == api.OK) != (s != api.Shares{}) {
			t.Fatal(x, s, e)
		}
		if s, f := punch.Print(x.l); f != e || (e == api.OK) != strings.HasPrefix(s, "lath;") {
			t.Fatal(x, s, f)
		}
	}
}

// R3: nil and empty slices are the same value.
func TestNilAndEmpty(t *testing.T) {
	for i, none := range [][]int{nil, {}} {
		l := lathOf(5, 2, 1, []int{7})
		if i > 0 {
			l.Flaws = []api.Flaw{}
		}
		if v, e := punch.Value(l, none); v != known(0) || e != api.OK {
			t.Error(v, e)
		}
		if plan, worth, e := punch.Best(l); !slices.Equal(plan, []int{0, 3}) || worth != known(14) || e != api.OK {
			t.Error(plan, worth, e)
		}
		if _, _, e := punch.Proves(l, none); e != api.ErrCount {
			t.Error(e)
		}
		if flaws, worth, e := punch.Worst(l, none, 1); len(flaws) > 0 || worth != 0 || e != api.OK {
			t.Error(flaws, worth, e)
		}
		if discs, e := punch.Discs(l, none, 5, 0); !slices.Equal(discs, []int{0}) || e != api.OK {
			t.Error(discs, e)
		}
		if s, e := punch.Divide(l, none, none, 5, known(1)); s != (api.Shares{Rest: known(5)}) || e != api.OK {
			t.Error(s, e)
		}
		if s, e := punch.Print(l); s != "lath;5;2;1;7\n" || e != api.OK {
			t.Error(s, e)
		}
		l.Prices = none
		if e := punch.Check(l); e != api.ErrCount {
			t.Error(e)
		}
	}
}

// R4: no argument is changed, and no result shares memory with one.
func TestArgumentsAreKept(t *testing.T) {
	x := exampleCall()
	withRoom := func(l []int) []int { return append(make([]int, 0, 2*len(l)), l...) } // which nobody is to use
	x.l.Prices, x.plan, x.discs, x.rents = withRoom(x.l.Prices), withRoom(x.plan), withRoom(x.discs), withRoom(x.rents)
	kept := x
	kept.l, kept.plan, kept.discs, kept.rents = copyOf(x.l), slices.Clone(x.plan), slices.Clone(x.discs), slices.Clone(x.rents)
	for range 2 {
		punch.Class(x.l, x.at)
		punch.Value(x.l, x.plan)
		punch.Proves(x.l, x.rents)
		punch.Divide(x.l, x.plan, x.discs, x.width, x.mass)
		punch.Print(x.l)
		best, _, _ := punch.Best(x.l)
		rents, _ := punch.Rents(x.l)
		flaws, _, _ := punch.Worst(x.l, x.plan, x.many)
		discs, _ := punch.Discs(x.l, x.plan, x.width, x.class)
		if !slices.Equal(best, []int{0, 5, 10, 15, 20}) || len(rents) != 25 || !slices.Equal(flaws, []int{1}) || !slices.Equal(discs, []int{11, 15}) {
			t.Error(best, rents, flaws, discs)
		}
		for _, l := range [][]int{best, rents, flaws, discs} {
			clear(l)
			_ = append(l[:0], 8, 8)
		}
	}
	if !sameLath(x.l, kept.l) || !slices.Equal(x.plan, kept.plan) || !slices.Equal(x.discs, kept.discs) || !slices.Equal(x.rents, kept.rents) {
		t.Error(x, kept)
	}
	for _, l := range [][]int{x.l.Prices, x.plan, x.discs, x.rents} {
		if n := len(l); slices.Max(l[n:2*n]) != 0 || slices.Min(l[n:2*n]) != 0 {
			t.Error(l[:2*n])
		}
	}
}

// P7.4: in which order sets of flaws are looked at does not show.
func TestSameAgain(t *testing.T) {
	l := fullLath()
	for i := range l.Flaws {
		l.Flaws[i].Sure = false
	}
	wantFlaws, wantWorth, _ := punch.Worst(l, []int{0, 70, 140, 210}, 4)
	for range 50 {
		if flaws, worth, _ := punch.Worst(l, []int{0, 70, 140, 210}, 4); !slices.Equal(flaws, wantFlaws) || worth != wantWorth {
			t.Fatal(flaws, worth)
		}
	}
}
