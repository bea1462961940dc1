package yard_test

import (
	"math"
	"math/rand"
	"slices"
	"strings"
	"testing"

	"sobreiro/api"
	"sobreiro/yard"
)

// P5.1: what is within its range, at its ends too, is valid.
func TestChecksAccept(t *testing.T) {
	full := yardOf(400, 400)
	for _, code := range []string{"A", "A-", "A2345678", "Z"} {
		full.Deeds = append(full.Deeds, pile(0, code, known(0), known(api.MaxMass)), rest(0, code, bounds(0, 1000)))
	}
	full.Deeds = append(full.Deeds, slices.Repeat([]api.Deed{boil(2000, "Z9-", known(1000), bounds(0, 3000))}, 32)...)
	for i, y := range []api.Yard{
		exampleYard(), full, {}, {Deeds: []api.Deed{}},
		yardOf(0, 0, pile(2000, "A", known(api.MaxMass), bounds(0, api.MaxMass))),
		yardOf(0, 0, boil(0, "A", known(0), known(0)), boil(0, "A", known(1000), known(api.MaxSoak))),
		yardOf(0, 0, scrape(0, "A", known(0)), scrape(0, "A", known(api.MaxMass)), weigh(0, "A", known(0)), weigh(0, "A", known(api.MaxMass))),
		// What has a fault has no error.
		yardOf(0, 0, split(5, "A", "A", known(1000)), merge(5, "B", "B"), sell(5, "A"), sell(5, "A")),
		yardOf(400, 400, pile(5, "A", known(1), known(1)), pile(5, "A", known(1), known(1))),
	} {
		if e := yard.CheckYard(y); e != api.OK {
			t.Error(i, e)
		}
		if _, _, _, e := yard.Follow(y, len(y.Deeds)); e != api.OK {
			t.Error(i, e)
		}
	}
}

// P5.1: deeds are checked one by one, and of a deed's errors the one named first decides.
func TestDeedErrors(t *testing.T) {
	with := func(d api.Deed, change func(d *api.Deed)) api.Deed {
		change(&d)
		return d
	}
	good := pile(5, "A", known(1), known(1))
	late := rest(9, "A", known(1))
	wrong := with(good, func(d *api.Deed) { d.A = bounds(2, 1) })
	for i, x := range []struct {
		deeds []api.Deed
		want  api.Errno
	}{
		{slices.Repeat([]api.Deed{late}, 40), api.OK},
		{slices.Repeat([]api.Deed{late}, 41), api.ErrCount},
		{make([]api.Deed, 41), api.ErrCount},
		{make([]api.Deed, 40), api.ErrValue},
		{[]api.Deed{good, good, late, late}, api.OK},
		{[]api.Deed{late, good}, api.ErrOrder},
		{[]api.Deed{good, late, with(late, func(d *api.Deed) { d.Day = 8 })}, api.ErrOrder},
		{[]api.Deed{late, with(good, func(d *api.Deed) { d.Kind = 9 })}, api.ErrValue},
		{[]api.Deed{late, with(good, func(d *api.Deed) { d.Stack = "a" })}, api.ErrOrder},
		{[]api.Deed{late, wrong}, api.ErrOrder},
		{[]api.Deed{late, with(good, func(d *api.Deed) { d.Day = -1 })}, api.ErrValue},
		{[]api.Deed{with(wrong, func(d *api.Deed) { d.Stack = "a" })}, api.ErrCode},
		{[]api.Deed{with(wrong, func(d *api.Deed) { d.Other = "a" })}, api.ErrValue},
		{[]api.Deed{split(5, "A", "a", bounds(2, 1))}, api.ErrCode},
		{[]api.Deed{split(5, "a", "B", known(1))}, api.ErrCode},
		{[]api.Deed{split(5, "A", "", known(1))}, api.ErrCode},
		{[]api.Deed{merge(5, "A", "")}, api.ErrCode},
		{[]api.Deed{merge(5, "", "A")}, api.ErrCode},
		{[]api.Deed{split(5, "A", "B", bounds(2, 1))}, api.ErrValue},
		// The first deed with an error decides.
		{[]api.Deed{wrong, with(good, func(d *api.Deed) { d.Stack = "a" })}, api.ErrValue},
		{[]api.Deed{with(good, func(d *api.Deed) { d.Stack = "a" }), wrong}, api.ErrCode},
		{[]api.Deed{late, good, wrong}, api.ErrOrder},
		{[]api.Deed{wrong, late, good}, api.ErrValue},
	} {
		if e := yard.CheckYard(yardOf(0, 0, x.deeds...)); e != x.want {
			t.Error(i, e)
		}
	}
}

// uses are what the kinds of deeds use: the greatest numbers of A and of B, -1 where they are not used, and another stack.
var uses = []struct {
	kind  api.DeedKind
	a, b  int
	other bool
}{
	{api.YdPile, api.MaxMass, api.MaxMass, false},
	{api.YdRest, 1000, -1, false},
	{api.YdBoil, 1000, api.MaxSoak, false},
	{api.YdScrape, api.MaxMass, -1, false},
	{api.YdSplit, 1000, -1, true},
	{api.YdMerge, -1, -1, true},
	{api.YdWeigh, api.MaxMass, -1, false},
	{api.YdSell, -1, -1, false},
}

// P5.1: the ranges of each kind, and that what a kind does not use is zero.
func TestWhatKindsUse(t *testing.T) {
	for _, x := range uses {
		d := api.Deed{Kind: x.kind, Day: 3, Stack: "A"}
		if x.other {
			d.Other = "B"
		}
		check := func(d api.Deed, want api.Errno) {
			t.Helper()
			if e := yard.CheckYard(yardOf(0, 0, d)); e != want {
				t.Error(d, e)
			}
		}
		check(d, api.OK)
		for i, most := range []int{x.a, x.b} {
			set := func(b api.Bounds) api.Deed {
				d := d
				*[]*api.Bounds{&d.A, &d.B}[i] = b
				return d
			}
			if most < 0 {
				for _, b := range []api.Bounds{known(1), bounds(0, 1), bounds(1, 0), bounds(-1, 0), known(-1)} {
					check(set(b), api.ErrValue)
				}
				continue
			}
			for _, b := range []api.Bounds{known(0), known(most), bounds(0, most), bounds(1, 2)} {
				check(set(b), api.OK)
			}
			for _, b := range wrongBounds(most) {
				check(set(b), api.ErrValue)
			}
		}
		for _, code := range []string{"B", "a", "B23456789", "\xff"} {
			o := d
			o.Other = code
			switch {
			case !x.other:
				check(o, api.ErrValue)
			case code != "B":
				check(o, api.ErrCode)
			}
		}
	}
}

// call is what the functions are asked with.
type call struct {
	y    api.Yard
	n    int
	code string
	most int
	pile int
}

func exampleCall() call { return call{exampleYard(), 5, "B", 500, 0} }

// flaw makes a call invalid.
type flaw func(x *call)

// check is what the functions look at in one go: flaws that it finds, and its error.
type check struct {
	e     api.Errno
	flaws []flaw
}

func yardChecks() []check {
	value, count := check{e: api.ErrValue}, check{e: api.ErrCount}
	for _, n := range outside(0, api.MaxResting) {
		value.flaws = append(value.flaws, func(x *call) { x.y.Before = n }, func(x *call) { x.y.After = n })
	}
	for _, n := range []int{34, 1000} {
		count.flaws = append(count.flaws, func(x *call) { x.y.Deeds = append(x.y.Deeds, make([]api.Deed, n)...) })
	}
	return slices.Concat([]check{value, count}, deedChecks(0), deedChecks(4), deedChecks(6))
}

// deedChecks returns the checks of a deed: its kind and its day, whether it is before the one before it, its codes, and its numbers.
func deedChecks(deed int) []check {
	at := func(change func(d *api.Deed)) flaw { return func(x *call) { change(&x.y.Deeds[deed]) } }
	kind, order, code, other, value := check{e: api.ErrValue}, check{e: api.ErrOrder}, check{e: api.ErrCode}, check{e: api.ErrCode}, check{e: api.ErrValue}
	for _, n := range outside(0, api.MaxYardDay) {
		kind.flaws = append(kind.flaws, at(func(d *api.Deed) { d.Day = n }))
	}
	for _, n := range []api.DeedKind{api.YdNothing, -1, 9, math.MaxInt, math.MinInt} {
		kind.flaws = append(kind.flaws, at(func(d *api.Deed) { d.Kind = n }))
	}
	if deed > 0 {
		order.flaws = []flaw{at(func(d *api.Deed) { d.Day = 193 }), at(func(d *api.Deed) { d.Day = 0 })}
	}
	for _, s := range []string{"", "a", "9", "A_", "A;", "A23456789", "\xff"} {
		code.flaws = append(code.flaws, at(func(d *api.Deed) { d.Stack = s }))
		if deed == 4 {
			other.flaws = append(other.flaws, at(func(d *api.Deed) { d.Other = s }))
		} else if s != "" {
			value.flaws = append(value.flaws, at(func(d *api.Deed) { d.Other = s }))
		}
	}
	value.flaws = append(value.flaws, at(func(d *api.Deed) { d.A = bounds(2, 1) }), at(func(d *api.Deed) { d.B = known(-1) }), at(func(d *api.Deed) { d.A = known(-1) }))
	return []check{kind, order, code, other, value}
}

func firstCheck() check {
	c := check{e: api.ErrValue}
	for _, n := range outside(0, 7) {
		c.flaws = append(c.flaws, func(x *call) { x.n = n })
	}
	return c
}

// againstCheck returns the check for faults of the first five deeds.
func againstCheck() check {
	return check{api.ErrAgainst, []flaw{
		func(x *call) { x.y.Before = 181 },
		func(x *call) { x.y.After = 15 },
		func(x *call) { x.y.Deeds[1].Stack = "B" },
		func(x *call) { x.y.Deeds[3].A = known(1079) },
		func(x *call) { x.y.Deeds[4].Other = "A" },
	}}
}

func codeCheck() check {
	c := check{e: api.ErrMissing}
	for _, s := range []string{"", "C", "b", "AB", "B;", "\xff"} {
		c.flaws = append(c.flaws, func(x *call) { x.code = s })
	}
	return c
}

// ordered checks a function: each flaw has its error, and of two flaws the one of the earlier check decides.
func ordered(t *testing.T, name string, checks []check, ask func(x call) (zero bool, e api.Errno)) {
	t.Helper()
	if _, e := ask(exampleCall()); e != api.OK {
		t.Error(name, "without a flaw", e)
	}
	for i, first := range checks {
		for n, a := range first.flaws {
			x := exampleCall()
			a(&x)
			if zero, e := ask(x); !zero || e != first.e {
				t.Error(name, i, n, zero, e)
			}
			for j, later := range checks[i+1:] {
				for m, b := range later.flaws {
					x := exampleCall()
					b(&x)
					a(&x)
					if zero, e := ask(x); !zero || e != first.e {
						t.Error(name, i, n, "before", i+1+j, m, zero, e)
					}
				}
			}
		}
	}
}

// P5.1 to P5.4, P0.1: the errors of all functions, in their order, and zero values with them.
func TestErrors(t *testing.T) {
	of, first := yardChecks(), append(yardChecks(), firstCheck())
	ordered(t, "CheckYard", of, func(x call) (bool, api.Errno) { return true, yard.CheckYard(x.y) })
	ordered(t, "Follow", first, func(x call) (bool, api.Errno) {
		s, done, fault, e := yard.Follow(x.y, x.n)
		return isNothing(s) && done == 0 && fault == api.YdNone, e
	})
	room := check{api.ErrRoom, []flaw{
		func(x *call) { x.y.Deeds[0].A.Min = 0 },
		func(x *call) { x.y.Deeds[0].A = known(0); x.y.Deeds[3].A = known(0) },
		func(x *call) { x.y.Deeds[2].A = known(1000); x.y.Deeds[3].A = known(0) },
		func(x *call) { x.y.Deeds[3].A.Max = 970 },
		func(x *call) { x.y.Deeds[4].A.Min = 0 },
	}}
	ordered(t, "Moist", slices.Concat(first, []check{againstCheck(), codeCheck(), room}), func(x call) (bool, api.Errno) {
		b, e := yard.Moist(x.y, x.n, x.code)
		return b == api.Bounds{}, e
	})
	most := check{e: api.ErrValue}
	for _, n := range outside(0, api.MaxSoak) {
		most.flaws = append(most.flaws, func(x *call) { x.most = n })
	}
	ordered(t, "Dry", slices.Concat(first, []check{most, againstCheck(), codeCheck()}), func(x call) (bool, api.Errno) {
		v, e := yard.Dry(x.y, x.n, x.code, x.most)
		return v == api.VdUnknown, e
	})
	ordered(t, "Sources", slices.Concat(first, []check{againstCheck(), codeCheck()}), func(x call) (bool, api.Errno) {
		l, e := yard.Sources(x.y, x.n, x.code)
		return l == nil, e
	})
	none := check{e: api.ErrMissing}
	for _, n := range slices.Concat(outside(0, 6), []int{1, 2, 3, 4, 5, 6}) {
		none.flaws = append(none.flaws, func(x *call) { x.pile = n })
	}
	ordered(t, "Holders", slices.Concat(first, []check{none, againstCheck()}), func(x call) (bool, api.Errno) {
		l, e := yard.Holders(x.y, x.n, x.pile)
		return l == nil, e
	})
	ordered(t, "Print", of, func(x call) (bool, api.Errno) {
		s, e := yard.Print(x.y)
		return s == "", e
	})
}

// P0.1: whatever is asked, there is an answer, and no other result with an error.
func TestAnyArguments(t *testing.T) {
	r := rand.New(rand.NewSource(3))
	all := slices.Concat(yardChecks(), []check{firstCheck(), againstCheck(), codeCheck()})
	for range 2 * often {
		x := exampleCall()
		for _, c := range slices.Backward(all) {
			if len(c.flaws) > 0 && r.Intn(20) == 0 {
				c.flaws[r.Intn(len(c.flaws))](&x)
			}
		}
		x.pile, x.most = r.Intn(12)-2, r.Intn(4000)-500
		if s, done, fault, e := yard.Follow(x.y, x.n); e != api.OK && (!isNothing(s) || done != 0 || fault != api.YdNone) || e == api.OK && (done == x.n) != (fault == api.YdNone) {
			t.Fatal(x, s, done, fault, e)
		}
		if b, e := yard.Moist(x.y, x.n, x.code); e != api.OK && b != (api.Bounds{}) {
			t.Fatal(x, b, e)
		}
		if v, e := yard.Dry(x.y, x.n, x.code, x.most); e != api.OK && v != api.VdUnknown {
			t.Fatal(x, v, e)
		}
		if l, e := yard.Sources(x.y, x.n, x.code); e != api.OK && l != nil {
			t.Fatal(x, l, e)
		}
		if l, e := yard.Holders(x.y, x.n, x.pile); e != api.OK && l != nil {
			t.Fatal(x, l, e)
		}
		if s, e := yard.Print(x.y); (e == api.OK) != strings.HasPrefix(s, "yard;") {
			t.Fatal(x, s, e)
		}
	}
}

// R3: nil and empty slices are the same value.
func TestNilAndEmpty(t *testing.T) {
	for _, y := range []api.Yard{{}, {Deeds: []api.Deed{}}} {
		follows(t, "empty", y, 0, api.Standing{}, 0, api.YdNone)
		if s, e := yard.Print(y); s != "yard;0;0\n" || e != api.OK {
			t.Error(s, e)
		}
		if _, e := yard.Sources(y, 0, "A"); e != api.ErrMissing {
			t.Error(e)
		}
		if _, e := yard.Holders(y, 0, 0); e != api.ErrMissing {
			t.Error(e)
		}
		if _, _, _, e := yard.Follow(y, 1); e != api.ErrValue {
			t.Error(e)
		}
	}
}

// R4: no argument is changed, and no result shares memory with one, or with another part of it.
func TestArgumentsAreKept(t *testing.T) {
	y := yardOf(0, 0, pile(0, "A", known(10), known(10)), pile(0, "B", known(10), known(10)), merge(0, "A", "B"), split(0, "A", "B", known(500)), split(0, "B", "C", known(500)), rest(0, "A", known(500)))
	kept := slices.Clone(y.Deeds)
	s, _, _, _ := yard.Follow(y, 6)
	yard.Moist(y, 6, "A")
	yard.Dry(y, 6, "A", 5)
	yard.Print(y)
	holders, _ := yard.Holders(y, 6, 0)
	sources, _ := yard.Sources(y, 6, "B")
	clear(holders)
	clear(sources)
	for i := range s.Stacks {
		if !slices.Equal(s.Stacks[i].From, []int{0, 1}) {
			t.Error(s)
		}
		clear(s.Stacks[i].From)
		_ = append(s.Stacks[i].From[:0], 7, 8, 9)
		s.Stacks[i].From = nil
	}
	for n := range 7 {
		follows(t, n, y, n, taleOf(y).after[n], n, api.YdNone)
	}
	if len(holders) != 3 || len(sources) != 2 || !slices.Equal(y.Deeds, kept) {
		t.Error(holders, sources, y)
	}
}
