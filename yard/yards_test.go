package yard_test

import (
	"math"
	"math/rand"
	"slices"

	"sobreiro/api"
)

// often is how many yards are tried out.
const often = 3000

func bounds(low, high int) api.Bounds { return api.Bounds{Min: low, Max: high} }

func known(n int) api.Bounds { return bounds(n, n) }

func isKnown(b api.Bounds) bool { return b.Min == b.Max }

func isIn(n int, b api.Bounds) bool { return b.Min <= n && n <= b.Max }

func isInside(inner, outer api.Bounds) bool { return outer.Min <= inner.Min && inner.Max <= outer.Max }

func pile(day int, stack string, dry, water api.Bounds) api.Deed {
	return api.Deed{Kind: api.YdPile, Day: day, Stack: stack, A: dry, B: water}
}

func rest(day int, stack string, part api.Bounds) api.Deed {
	return api.Deed{Kind: api.YdRest, Day: day, Stack: stack, A: part}
}

func boil(day int, stack string, part, soak api.Bounds) api.Deed {
	return api.Deed{Kind: api.YdBoil, Day: day, Stack: stack, A: part, B: soak}
}

func scrape(day int, stack string, mass api.Bounds) api.Deed {
	return api.Deed{Kind: api.YdScrape, Day: day, Stack: stack, A: mass}
}

func split(day int, stack, other string, part api.Bounds) api.Deed {
	return api.Deed{Kind: api.YdSplit, Day: day, Stack: stack, Other: other, A: part}
}

func merge(day int, stack, other string) api.Deed {
	return api.Deed{Kind: api.YdMerge, Day: day, Stack: stack, Other: other}
}

func weigh(day int, stack string, mass api.Bounds) api.Deed {
	return api.Deed{Kind: api.YdWeigh, Day: day, Stack: stack, A: mass}
}

func sell(day int, stack string) api.Deed {
	return api.Deed{Kind: api.YdSell, Day: day, Stack: stack}
}

func yardOf(before, after int, deeds ...api.Deed) api.Yard {
	return api.Yard{Before: before, After: after, Deeds: deeds}
}

// exampleYard is the yard of the chapter's examples, with the weighing that has no fault.
func exampleYard() api.Yard {
	return yardOf(180, 14,
		pile(0, "A", bounds(1000, 1100), bounds(300, 400)),
		rest(100, "A", bounds(500, 600)),
		boil(180, "A", bounds(20, 30), bounds(400, 450)),
		scrape(194, "A", bounds(10, 20)),
		split(194, "A", "B", known(250)),
		weigh(200, "B", bounds(380, 390)),
		sell(200, "A"),
	)
}

// changed returns the example's yard, changed.
func changed(change func(y *api.Yard)) api.Yard {
	y := exampleYard()
	change(&y)
	return y
}

func sameYard(a, b api.Yard) bool {
	return a.Before == b.Before && a.After == b.After && slices.Equal(a.Deeds, b.Deeds)
}

func sameStack(a, b api.Stack) bool {
	return a.Code == b.Code && a.Dry == b.Dry && a.Water == b.Water && a.Piled == b.Piled && a.Boiled == b.Boiled && slices.Equal(a.From, b.From)
}

func sameStanding(a, b api.Standing) bool {
	return a.Account == b.Account && slices.EqualFunc(a.Stacks, b.Stacks, sameStack)
}

func isNothing(s api.Standing) bool { return sameStanding(s, api.Standing{}) }

// corners returns from the least to the greatest of what two numbers at the ends of their bounds make.
func corners(a, b api.Bounds, f func(a, b int) int) api.Bounds {
	l := []int{f(a.Min, b.Min), f(a.Min, b.Max), f(a.Max, b.Min), f(a.Max, b.Max)}
	return bounds(slices.Min(l), slices.Max(l))
}

func plus(a, b int) int { return a + b }

func minus(a, b int) int { return a - b }

func thousandths(n, x int) int { return n * x / 1000 }

func without(n, x int) int { return n - thousandths(n, x) }

func add(to *api.Bounds, b api.Bounds) { *to = corners(*to, b, plus) }

// find returns the index of the stack with a code, or -1.
func find(stacks []api.Stack, code string) int {
	return slices.IndexFunc(stacks, func(s api.Stack) bool { return s.Code == code })
}

// tale is what happens in a yard, as the chapter tells it: what is there after each of the deeds that can be made, and the fault of the next one.
type tale struct {
	after []api.Standing // [n]: after n deeds
	fault api.YardFault
}

func taleOf(y api.Yard) (l tale) {
	l.after = []api.Standing{{}}
	for i, d := range y.Deeds {
		s := l.after[i]
		l.fault = faultIn(y, s.Stacks, d)
		if l.fault != api.YdNone {
			break
		}
		l.after = append(l.after, told(s, i, d))
	}
	return l
}

// upTo returns what Follow has to return for the first n deeds.
func (l tale) upTo(n int) (s api.Standing, done int, fault api.YardFault) {
	if n < len(l.after) {
		return l.after[n], n, api.YdNone
	}
	return l.after[len(l.after)-1], len(l.after) - 1, l.fault
}

// faultIn returns the fault of a deed among stacks.
func faultIn(y api.Yard, stacks []api.Stack, d api.Deed) api.YardFault {
	s, o, full := find(stacks, d.Stack), find(stacks, d.Other), len(stacks) == 8
	if d.Kind == api.YdPile {
		switch {
		case s >= 0:
			return api.YdStack
		case full:
			return api.YdRoom
		}
		return api.YdNone
	}
	if s < 0 {
		return api.YdStack
	}
	x := stacks[s]
	rested := x.Boiled >= 0 && d.Day >= x.Boiled+y.After
	weighed := x.Dry.Min <= d.A.Max-x.Water.Min && d.A.Min-x.Water.Max <= x.Dry.Max
	for _, rule := range []struct {
		broken bool
		fault  api.YardFault
	}{
		{d.Kind == api.YdSplit && (o >= 0 || d.Other == d.Stack), api.YdStack},
		{d.Kind == api.YdMerge && (o < 0 || d.Other == d.Stack), api.YdStack},
		{d.Kind == api.YdSplit && full, api.YdRoom},
		{d.Kind == api.YdBoil && d.Day < x.Piled+y.Before, api.YdSoon},
		{d.Kind == api.YdScrape && !rested, api.YdSoon},
		{d.Kind == api.YdSell && !rested, api.YdSoon},
		{d.Kind == api.YdScrape && d.A.Min > x.Dry.Max, api.YdBark},
		{d.Kind == api.YdWeigh && !weighed, api.YdScale},
	} {
		if rule.broken {
			return rule.fault
		}
	}
	return api.YdNone
}

// told returns what is there after a deed without a fault.
func told(before api.Standing, i int, d api.Deed) (s api.Standing) {
	s = api.Standing{Stacks: slices.Clone(before.Stacks), Account: before.Account}
	if d.Kind == api.YdPile {
		s.Stacks = append(s.Stacks, api.Stack{Code: d.Stack, Dry: d.A, Water: d.B, Piled: d.Day, Boiled: -1, From: []int{i}})
		return s
	}
	at := find(s.Stacks, d.Stack)
	x, was := &s.Stacks[at], s.Stacks[at]
	switch a := &s.Account; d.Kind {
	case api.YdRest:
		add(&a.Vapour, corners(was.Water, d.A, thousandths))
		x.Water = corners(was.Water, d.A, without)
	case api.YdBoil:
		add(&a.Broth, corners(was.Dry, d.A, thousandths))
		add(&a.Soaked, corners(was.Dry, d.B, thousandths))
		x.Dry = corners(was.Dry, d.A, without)
		add(&x.Water, corners(was.Dry, d.B, thousandths))
		x.Boiled = d.Day
	case api.YdScrape:
		add(&a.Dust, bounds(d.A.Min, min(d.A.Max, was.Dry.Max)))
		x.Dry = corners(was.Dry, d.A, func(n, x int) int { return max(0, n-x) })
	case api.YdWeigh:
		x.Dry = bounds(max(was.Dry.Min, d.A.Min-was.Water.Max), min(was.Dry.Max, d.A.Max-was.Water.Min))
		x.Water = bounds(max(was.Water.Min, d.A.Min-was.Dry.Max), min(was.Water.Max, d.A.Max-was.Dry.Min))
	case api.YdSell:
		add(&a.SoldDry, was.Dry)
		add(&a.SoldWater, was.Water)
		s.Stacks = slices.Delete(s.Stacks, at, at+1)
	case api.YdSplit:
		x.Dry, x.Water = corners(was.Dry, d.A, without), corners(was.Water, d.A, without)
		was.Code, was.Dry, was.Water = d.Other, corners(was.Dry, d.A, thousandths), corners(was.Water, d.A, thousandths)
		s.Stacks = append(s.Stacks, was)
	case api.YdMerge:
		o := s.Stacks[find(s.Stacks, d.Other)]
		add(&x.Dry, o.Dry)
		add(&x.Water, o.Water)
		x.Piled = max(was.Piled, o.Piled)
		if was.Boiled < 0 || o.Boiled < 0 {
			x.Boiled = -1
		} else {
			x.Boiled = max(was.Boiled, o.Boiled)
		}
		x.From = slices.Concat(was.From, o.From)
		slices.Sort(x.From)
		x.From = slices.Compact(x.From)
		s.Stacks = slices.DeleteFunc(s.Stacks, func(s api.Stack) bool { return s.Code == d.Other })
	}
	return s
}

// some returns bounds from 0 to high, which often are a single number.
func some(r *rand.Rand, high int) api.Bounds {
	a, b := r.Intn(high+1), r.Intn(high+1)
	if r.Intn(3) == 0 {
		b = a
	}
	if r.Intn(8) == 0 {
		a = 0
	}
	return bounds(min(a, b), max(a, b))
}

// near returns bounds round a number, from 0 to high.
func near(r *rand.Rand, n, high int) api.Bounds {
	width := []int{0, 0, 1, 3, 20, 1000}[r.Intn(6)]
	return bounds(max(0, n-r.Intn(width+1)), min(high, n+r.Intn(width+1)))
}

// someDeed returns a deed of any kind. There may be no such stacks.
func someDeed(r *rand.Rand, day int) api.Deed {
	code := func() string { return string(rune('A' + r.Intn(11))) }
	great := []int{3, 30, 2000, api.MaxMass}[r.Intn(4)]
	kinds := []api.DeedKind{api.YdPile, api.YdPile, api.YdPile, api.YdRest, api.YdRest, api.YdBoil, api.YdBoil, api.YdScrape, api.YdScrape, api.YdSplit, api.YdSplit, api.YdMerge, api.YdMerge, api.YdWeigh, api.YdWeigh, api.YdSell}
	switch kinds[r.Intn(len(kinds))] {
	case api.YdPile:
		return pile(day, code(), some(r, great), some(r, great))
	case api.YdRest:
		return rest(day, code(), some(r, 1000))
	case api.YdBoil:
		return boil(day, code(), some(r, 100), some(r, api.MaxSoak))
	case api.YdScrape:
		return scrape(day, code(), some(r, great))
	case api.YdSplit:
		return split(day, code(), code(), some(r, 1000))
	case api.YdMerge:
		return merge(day, code(), code())
	case api.YdWeigh:
		return weigh(day, code(), some(r, great))
	default:
		return sell(day, code())
	}
}

// rarely says of each fault of how many just one is kept.
var rarely = [...]int{1, 150, 2, 30, 10, 30}

// someYard returns a yard with at most so many deeds, none of which has a fault, or of which one may have.
func someYard(r *rand.Rand, most int, faulty bool) api.Yard {
	y := yardOf(r.Intn(3), r.Intn(3))
	day := 0
	var s api.Standing
	fault := api.YdNone
	for range 3 * most {
		d := someDeed(r, day)
		if fault == api.YdNone {
			f := faultIn(y, s.Stacks, d)
			if f != api.YdNone && (!faulty || r.Intn(rarely[f]) > 0) {
				day = min(day+r.Intn(2), api.MaxYardDay)
				continue
			}
			fault = f
			if f == api.YdNone {
				s = told(s, len(y.Deeds), d)
			}
		}
		y.Deeds = append(y.Deeds, d)
		if len(y.Deeds) == most {
			break
		}
	}
	return y
}

// realStack is what really is in a stack.
type realStack struct {
	code       string
	dry, water int
	piles      []int // of which it holds bark
}

// real is what really is in a yard, and what really went where.
type real struct {
	stacks                                          []realStack
	vapour, broth, dust, soldDry, soldWater, soaked int
	piledDry, piledWater                            int
}

// within returns a number within bounds, often one of their ends.
func within(r *rand.Rand, b api.Bounds) int {
	switch r.Intn(3) {
	case 0:
		return b.Min
	case 1:
		return b.Max
	default:
		return b.Min + r.Intn(b.Max-b.Min+1)
	}
}

// happens makes a deed as it really happens, with real numbers within its bounds, or says that it cannot.
func (w *real) happens(r *rand.Rand, i int, d api.Deed) bool {
	a, b := within(r, d.A), within(r, d.B)
	if d.Kind == api.YdPile {
		w.stacks = append(w.stacks, realStack{d.Stack, a, b, []int{i}})
		w.piledDry += a
		w.piledWater += b
		return true
	}
	at := w.find(d.Stack)
	x := &w.stacks[at]
	switch d.Kind {
	case api.YdRest:
		gone := x.water * a / 1000
		w.vapour += gone
		x.water -= gone
	case api.YdBoil:
		gone, taken := x.dry*a/1000, x.dry*b/1000
		w.broth += gone
		w.soaked += taken
		x.dry -= gone
		x.water += taken
	case api.YdScrape:
		if d.A.Min > x.dry {
			return false
		}
		a = min(a, x.dry)
		w.dust += a
		x.dry -= a
	case api.YdWeigh:
		return isIn(x.dry+x.water, d.A)
	case api.YdSell:
		w.soldDry += x.dry
		w.soldWater += x.water
		w.stacks = slices.Delete(w.stacks, at, at+1)
	case api.YdSplit:
		o := realStack{d.Other, x.dry * a / 1000, x.water * a / 1000, slices.Clone(x.piles)}
		x.dry -= o.dry
		x.water -= o.water
		w.stacks = append(w.stacks, o)
	case api.YdMerge:
		other := w.find(d.Other)
		o := w.stacks[other]
		x.dry += o.dry
		x.water += o.water
		x.piles = append(x.piles, o.piles...)
		w.stacks = slices.Delete(w.stacks, other, other+1)
	}
	return true
}

func (w *real) find(code string) int {
	return slices.IndexFunc(w.stacks, func(s realStack) bool { return s.code == code })
}

// realYard returns a yard without a fault whose deeds really can happen, each with single numbers only if they are to be so.
func realYard(r *rand.Rand, most int, single bool) api.Yard {
	y := yardOf(r.Intn(3), r.Intn(3))
	var w real
	var s api.Standing
	for day := 0; len(y.Deeds) < most; {
		d := someDeed(r, day)
		if single {
			d.A, d.B = known(d.A.Min), known(d.B.Min)
		}
		if at := w.find(d.Stack); at >= 0 && (d.Kind == api.YdWeigh || d.Kind == api.YdScrape) {
			d.A = measured(r, d.Kind, w.stacks[at], single)
		}
		if faultIn(y, s.Stacks, d) != api.YdNone || d.A.Max > api.MaxMass || !w.happens(r, len(y.Deeds), d) {
			day = min(day+r.Intn(2), api.MaxYardDay)
			continue
		}
		s = told(s, len(y.Deeds), d)
		y.Deeds = append(y.Deeds, d)
	}
	return y
}

// measured returns the bounds of a weighing, or of what is scraped off, that can be so.
func measured(r *rand.Rand, kind api.DeedKind, x realStack, single bool) api.Bounds {
	n := x.dry + x.water
	if kind == api.YdScrape {
		n = r.Intn(x.dry/4 + 1)
	}
	if single {
		return known(n)
	}
	return near(r, n, max(n, api.MaxMass))
}

// outside returns numbers that are not from low to high.
func outside(low, high int) []int {
	return []int{low - 1, high + 1, -1000000007, 1000000007, math.MinInt, math.MaxInt}
}

// wrongBounds returns what is not bounds from 0 to high.
func wrongBounds(high int) []api.Bounds {
	return []api.Bounds{bounds(-1, high), bounds(-1, -1), bounds(0, high+1), known(high + 1), bounds(1, 0), bounds(high, high-1), bounds(math.MinInt, high), bounds(0, math.MaxInt), bounds(math.MaxInt, math.MinInt)}
}
