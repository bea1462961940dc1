package yard_test

import (
	"math/rand"
	"slices"
	"testing"

	"sobreiro/api"
	"sobreiro/yard"
)

func stack(code string, dry, water api.Bounds, piled, boiled int, from ...int) api.Stack {
	return api.Stack{Code: code, Dry: dry, Water: water, Piled: piled, Boiled: boiled, From: from}
}

// follows checks what there is after the first deeds.
func follows(t *testing.T, name any, y api.Yard, n int, want api.Standing, done int, fault api.YardFault) {
	t.Helper()
	if s, k, f, e := yard.Follow(y, n); !sameStanding(s, want) || k != done || f != fault || e != api.OK {
		t.Error(name, s, k, f, e)
	}
}

// P5.1: the examples, deed by deed.
func TestFollowExamples(t *testing.T) {
	a := stack("A", bounds(1000, 1100), bounds(300, 400), 0, -1, 0)
	var want api.Standing
	follows(t, 0, exampleYard(), 0, want, 0, api.YdNone)
	want.Stacks = []api.Stack{a}
	follows(t, 1, exampleYard(), 1, want, 1, api.YdNone)
	want.Stacks[0].Water = bounds(120, 200)
	want.Account.Vapour = bounds(150, 240)
	follows(t, 2, exampleYard(), 2, want, 2, api.YdNone)
	want.Stacks[0] = stack("A", bounds(970, 1078), bounds(520, 695), 0, 180, 0)
	want.Account.Broth, want.Account.Soaked = bounds(20, 33), bounds(400, 495)
	follows(t, 3, exampleYard(), 3, want, 3, api.YdNone)
	want.Stacks[0].Dry = bounds(950, 1068)
	want.Account.Dust = bounds(10, 20)
	follows(t, 4, exampleYard(), 4, want, 4, api.YdNone)
	want.Stacks = []api.Stack{stack("A", bounds(713, 801), bounds(390, 522), 0, 180, 0), stack("B", bounds(237, 267), bounds(130, 173), 0, 180, 0)}
	follows(t, 5, exampleYard(), 5, want, 5, api.YdNone)
	heavy := changed(func(y *api.Yard) { y.Deeds[5].A = bounds(340, 350) })
	follows(t, "too light", heavy, 6, want, 5, api.YdScale)
	follows(t, "and then", heavy, 7, want, 5, api.YdScale)
	follows(t, "before it", heavy, 5, want, 5, api.YdNone)
	want.Stacks[1] = stack("B", bounds(237, 260), bounds(130, 153), 0, 180, 0)
	follows(t, 6, exampleYard(), 6, want, 6, api.YdNone)
	want.Stacks = want.Stacks[1:]
	want.Account.SoldDry, want.Account.SoldWater = bounds(713, 801), bounds(390, 522)
	follows(t, 7, exampleYard(), 7, want, 7, api.YdNone)
	early := changed(func(y *api.Yard) { y.Deeds[2].Day = 179 })
	follows(t, "too soon", early, 7, api.Standing{Stacks: []api.Stack{stack("A", bounds(1000, 1100), bounds(120, 200), 0, -1, 0)}, Account: api.Account{Vapour: bounds(150, 240)}}, 2, api.YdSoon)
}

// P5.1: what one deed leaves of a stack, and where the rest is.
func TestDeeds(t *testing.T) {
	ready := func(dry, water api.Bounds, more ...api.Deed) api.Yard {
		return yardOf(0, 0, append([]api.Deed{pile(0, "A", dry, water), boil(0, "A", known(0), known(0))}, more...)...)
	}
	for i, x := range []struct {
		y          api.Yard
		dry, water api.Bounds // of A
		account    api.Account
	}{
		{ready(bounds(0, 9), bounds(0, 7)), bounds(0, 9), bounds(0, 7), api.Account{}},
		// What rests loses water alone.
		{ready(known(9), bounds(10, 20), rest(0, "A", bounds(0, 1000))), known(9), bounds(0, 20), api.Account{Vapour: bounds(0, 20)}},
		{ready(known(9), known(7), rest(0, "A", known(500))), known(9), known(4), api.Account{Vapour: known(3)}},
		{ready(known(9), known(7), rest(0, "A", bounds(142, 143))), known(9), bounds(6, 7), api.Account{Vapour: bounds(0, 1)}},
		{ready(known(9), known(7), rest(0, "A", known(1000)), rest(0, "A", known(1000))), known(9), known(0), api.Account{Vapour: known(7)}},
		// Water is taken in by the dry bark that there was before.
		{ready(known(1000), known(5), boil(0, "A", known(1000), known(3000))), known(0), known(3005), api.Account{Broth: known(1000), Soaked: known(3000)}},
		{ready(known(7), known(0), boil(0, "A", known(142), known(143))), known(7), known(1), api.Account{Soaked: known(1)}},
		{ready(bounds(10, 20), known(1), boil(0, "A", bounds(100, 200), bounds(300, 400))), bounds(8, 18), bounds(4, 9), api.Account{Broth: bounds(1, 4), Soaked: bounds(3, 8)}},
		// Not more is scraped off than there is.
		{ready(bounds(10, 20), known(1), scrape(0, "A", bounds(0, 5))), bounds(5, 20), known(1), api.Account{Dust: bounds(0, 5)}},
		{ready(bounds(10, 20), known(1), scrape(0, "A", bounds(5, 15))), bounds(0, 15), known(1), api.Account{Dust: bounds(5, 15)}},
		{ready(bounds(10, 20), known(1), scrape(0, "A", bounds(15, 25))), bounds(0, 5), known(1), api.Account{Dust: bounds(15, 20)}},
		{ready(bounds(10, 20), known(1), scrape(0, "A", bounds(20, 99))), known(0), known(1), api.Account{Dust: known(20)}},
		{ready(known(0), known(1), scrape(0, "A", known(0))), known(0), known(1), api.Account{}},
		// What is split off is the same part of the bark and of the water.
		{ready(known(10), known(7), split(0, "A", "B", known(500))), known(5), known(4), api.Account{}},
		{ready(bounds(10, 20), known(9), split(0, "A", "B", bounds(0, 1000))), bounds(0, 20), bounds(0, 9), api.Account{}},
		{ready(bounds(10, 20), known(9), split(0, "A", "B", bounds(0, 1000)), merge(0, "A", "B")), bounds(0, 40), bounds(0, 18), api.Account{}},
		// A weighing tells what it can of bark and water.
		{ready(bounds(10, 20), bounds(5, 9), weigh(0, "A", bounds(0, 29))), bounds(10, 20), bounds(5, 9), api.Account{}},
		{ready(bounds(10, 20), bounds(5, 9), weigh(0, "A", bounds(0, 15))), known(10), known(5), api.Account{}},
		{ready(bounds(10, 20), bounds(5, 9), weigh(0, "A", bounds(29, 99))), known(20), known(9), api.Account{}},
		{ready(bounds(10, 20), bounds(5, 9), weigh(0, "A", known(18))), bounds(10, 13), bounds(5, 8), api.Account{}},
		{ready(bounds(10, 20), bounds(5, 9), weigh(0, "A", bounds(27, 28))), bounds(18, 20), bounds(7, 9), api.Account{}},
		{ready(bounds(10, 20), bounds(5, 9), weigh(0, "A", known(18)), weigh(0, "A", known(15))), known(10), known(5), api.Account{}},
	} {
		s, _, fault, e := yard.Follow(x.y, len(x.y.Deeds))
		if fault != api.YdNone || e != api.OK || s.Stacks[0].Code != "A" || s.Stacks[0].Dry != x.dry || s.Stacks[0].Water != x.water || s.Account != x.account {
			t.Error(i, s, fault, e)
		}
	}
}

// P5.1: the days and the sources of what is split and merged, and the order of the stacks.
func TestStacks(t *testing.T) {
	n := known(8)
	a, b, c := pile(1, "A", n, n), pile(2, "B", n, n), pile(5, "C", n, n)
	full := func(code string, piled, boiled int, from ...int) api.Stack {
		return stack(code, n, n, piled, boiled, from...)
	}
	none := known(0)
	for i, x := range []struct {
		y    api.Yard
		want []api.Stack
	}{
		{yardOf(0, 0, a, b, c), []api.Stack{full("A", 1, -1, 0), full("B", 2, -1, 1), full("C", 5, -1, 2)}},
		{yardOf(0, 0, pile(0, "Z", n, n), pile(0, "B", n, n), pile(0, "M", n, n)), []api.Stack{full("Z", 0, -1, 0), full("B", 0, -1, 1), full("M", 0, -1, 2)}},
		// The later day of piling; the later one of boiling if both are boiled.
		{yardOf(0, 0, a, b, merge(7, "A", "B")), []api.Stack{stack("A", known(16), known(16), 2, -1, 0, 1)}},
		{yardOf(0, 0, a, b, merge(7, "B", "A")), []api.Stack{stack("B", known(16), known(16), 2, -1, 0, 1)}},
		{yardOf(0, 0, a, b, boil(3, "A", none, none), merge(7, "A", "B")), []api.Stack{stack("A", known(16), known(16), 2, -1, 0, 1)}},
		{yardOf(0, 0, a, b, boil(3, "B", none, none), merge(7, "A", "B")), []api.Stack{stack("A", known(16), known(16), 2, -1, 0, 1)}},
		{yardOf(0, 0, a, b, boil(3, "B", none, none), boil(4, "A", none, none), merge(7, "A", "B")), []api.Stack{stack("A", known(16), known(16), 2, 4, 0, 1)}},
		{yardOf(0, 0, a, b, boil(3, "A", none, none), boil(4, "B", none, none), merge(7, "A", "B")), []api.Stack{stack("A", known(16), known(16), 2, 4, 0, 1)}},
		{yardOf(0, 0, pile(0, "A", n, n), boil(0, "A", none, none), pile(0, "B", n, n), boil(0, "B", none, none), merge(0, "A", "B")), []api.Stack{stack("A", known(16), known(16), 0, 0, 0, 2)}},
		// It is boiled on the last day on which it is boiled.
		{yardOf(0, 0, a, boil(3, "A", none, none), boil(9, "A", none, none)), []api.Stack{full("A", 1, 9, 0)}},
		// What is split off was piled and boiled when the stack was, and comes after the others.
		{yardOf(0, 0, a, b, boil(3, "A", none, none), split(9, "A", "C", known(250)), pile(9, "D", n, n)), []api.Stack{stack("A", known(6), known(6), 1, 3, 0), full("B", 2, -1, 1), stack("C", known(2), known(2), 1, 3, 0), full("D", 9, -1, 4)}},
		{yardOf(0, 0, a, split(9, "A", "B", none)), []api.Stack{full("A", 1, -1, 0), stack("B", none, none, 1, -1, 0)}},
		{yardOf(0, 0, a, split(9, "A", "B", known(1000))), []api.Stack{stack("A", none, none, 1, -1, 0), full("B", 1, -1, 0)}},
		// A code can be used again when its stack is gone, and then comes last.
		{yardOf(0, 0, a, b, merge(2, "B", "A"), pile(5, "A", n, n)), []api.Stack{stack("B", known(16), known(16), 2, -1, 0, 1), full("A", 5, -1, 3)}},
		{yardOf(0, 0, a, b, c, boil(5, "A", none, none), sell(5, "A"), pile(6, "A", n, n)), []api.Stack{full("B", 2, -1, 1), full("C", 5, -1, 2), full("A", 6, -1, 5)}},
		{yardOf(0, 0, a, b, c, merge(5, "A", "B"), split(5, "A", "B", known(500))), []api.Stack{stack("A", n, n, 2, -1, 0, 1), full("C", 5, -1, 2), stack("B", n, n, 2, -1, 0, 1)}},
		// Sources of both, each once.
		{yardOf(0, 0, a, b, c, split(5, "A", "D", known(500)), merge(5, "B", "A"), merge(5, "D", "B")), []api.Stack{full("C", 5, -1, 2), stack("D", known(16), known(16), 2, -1, 0, 1)}},
		{yardOf(0, 0, a, b, c, merge(5, "C", "A"), split(5, "C", "A", known(500)), merge(5, "B", "A"), merge(5, "C", "B")), []api.Stack{stack("C", known(24), known(24), 5, -1, 0, 1, 2)}},
		{yardOf(0, 0, a, split(1, "A", "B", known(500)), merge(1, "A", "B")), []api.Stack{full("A", 1, -1, 0)}},
	} {
		s, _, fault, e := yard.Follow(x.y, len(x.y.Deeds))
		if !slices.EqualFunc(s.Stacks, x.want, sameStack) || fault != api.YdNone || e != api.OK {
			t.Error(i, s, fault, e)
		}
	}
}

// eight are deeds that pile up as many stacks as there can be.
func eight() (l []api.Deed) {
	for i := range 8 {
		l = append(l, pile(0, string(rune('A'+i)), known(10), known(10)))
	}
	return l
}

// P5.1: the faults, their order and their limits.
func TestFaults(t *testing.T) {
	a, b := pile(10, "A", bounds(10, 20), bounds(5, 9)), pile(12, "B", known(10), known(10))
	boiled := boil(20, "A", known(0), known(0))
	full := eight()
	fullOf := func(more ...api.Deed) []api.Deed { return slices.Concat(full, more) }
	for i, x := range []struct {
		before, after int
		deeds         []api.Deed // the last one is looked at
		want          api.YardFault
	}{
		// YdStack
		{0, 0, []api.Deed{a, pile(10, "A", known(1), known(1))}, api.YdStack},
		{0, 0, []api.Deed{rest(0, "A", known(0))}, api.YdStack},
		{0, 0, []api.Deed{boil(0, "A", known(0), known(0))}, api.YdStack},
		{0, 0, []api.Deed{scrape(0, "A", known(0))}, api.YdStack},
		{0, 0, []api.Deed{split(0, "A", "B", known(0))}, api.YdStack},
		{0, 0, []api.Deed{weigh(0, "A", known(0))}, api.YdStack},
		{0, 0, []api.Deed{sell(0, "A")}, api.YdStack},
		{0, 0, []api.Deed{a, rest(10, "B", known(0))}, api.YdStack},
		{0, 0, []api.Deed{a, b, split(12, "A", "B", known(0))}, api.YdStack},
		{0, 0, []api.Deed{a, split(12, "A", "A", known(0))}, api.YdStack},
		{0, 0, []api.Deed{split(12, "A", "A", known(0))}, api.YdStack},
		{0, 0, []api.Deed{a, split(12, "B", "C", known(0))}, api.YdStack},
		{0, 0, []api.Deed{a, merge(12, "A", "B")}, api.YdStack},
		{0, 0, []api.Deed{a, merge(12, "B", "A")}, api.YdStack},
		{0, 0, []api.Deed{a, merge(12, "A", "A")}, api.YdStack},
		{0, 0, []api.Deed{merge(12, "A", "A")}, api.YdStack},
		{0, 0, []api.Deed{a, b, merge(12, "A", "B"), rest(12, "B", known(0))}, api.YdStack},
		{0, 0, []api.Deed{a, boiled, sell(20, "A"), sell(20, "A")}, api.YdStack},
		{0, 0, []api.Deed{a, b, merge(12, "A", "B"), pile(12, "B", known(1), known(1))}, api.YdNone},
		// YdRoom
		{0, 0, full, api.YdNone},
		{0, 0, fullOf(pile(0, "I", known(1), known(1))), api.YdRoom},
		{0, 0, fullOf(split(0, "A", "I", known(1))), api.YdRoom},
		{0, 0, fullOf(pile(0, "H", known(1), known(1))), api.YdStack},
		{0, 0, fullOf(split(0, "A", "H", known(1))), api.YdStack},
		{0, 0, fullOf(split(0, "I", "J", known(1))), api.YdStack},
		{0, 0, fullOf(merge(0, "A", "H"), pile(0, "I", known(1), known(1))), api.YdNone},
		{0, 0, fullOf(merge(0, "A", "H"), split(0, "A", "I", known(1)), split(0, "A", "H", known(1))), api.YdRoom},
		{0, 0, fullOf(rest(0, "A", known(1)), boil(0, "A", known(1), known(1)), scrape(0, "A", known(1)), merge(0, "B", "C")), api.YdNone},
		// YdSoon
		{8, 0, []api.Deed{a, boil(17, "A", known(0), known(0))}, api.YdSoon},
		{8, 0, []api.Deed{a, boil(18, "A", known(0), known(0))}, api.YdNone},
		{400, 0, []api.Deed{a, boil(409, "A", known(0), known(0))}, api.YdSoon},
		{400, 0, []api.Deed{a, boil(410, "A", known(0), known(0))}, api.YdNone},
		{0, 0, []api.Deed{a, boil(10, "A", known(0), known(0))}, api.YdNone},
		{8, 0, []api.Deed{a, b, merge(12, "A", "B"), boil(19, "A", known(0), known(0))}, api.YdSoon},
		{8, 0, []api.Deed{a, b, merge(12, "A", "B"), boil(20, "A", known(0), known(0))}, api.YdNone},
		{8, 0, []api.Deed{a, split(12, "A", "B", known(1)), boil(18, "B", known(0), known(0))}, api.YdNone},
		{8, 3, []api.Deed{a, boiled, boil(21, "A", known(0), known(0))}, api.YdNone},
		{0, 0, []api.Deed{a, scrape(10, "A", known(0))}, api.YdSoon},
		{0, 0, []api.Deed{a, sell(10, "A")}, api.YdSoon},
		{0, 3, []api.Deed{a, boiled, scrape(22, "A", known(0))}, api.YdSoon},
		{0, 3, []api.Deed{a, boiled, sell(22, "A")}, api.YdSoon},
		{0, 3, []api.Deed{a, boiled, scrape(23, "A", known(0))}, api.YdNone},
		{0, 3, []api.Deed{a, boiled, sell(23, "A")}, api.YdNone},
		{0, 3, []api.Deed{a, boiled, boil(22, "A", known(0), known(0)), sell(24, "A")}, api.YdSoon},
		{0, 3, []api.Deed{a, boiled, boil(22, "A", known(0), known(0)), sell(25, "A")}, api.YdNone},
		{0, 0, []api.Deed{a, b, boiled, merge(20, "A", "B"), sell(20, "A")}, api.YdSoon},
		{0, 3, []api.Deed{a, boiled, split(20, "A", "B", known(1)), sell(22, "B")}, api.YdSoon},
		{0, 3, []api.Deed{a, boiled, split(20, "A", "B", known(1)), sell(23, "B")}, api.YdNone},
		{0, 400, []api.Deed{a, boiled, sell(419, "A")}, api.YdSoon},
		{0, 400, []api.Deed{a, boiled, sell(420, "A")}, api.YdNone},
		{400, 400, []api.Deed{a, rest(10, "A", known(1)), weigh(10, "A", known(20)), split(10, "A", "B", known(1)), merge(10, "B", "A")}, api.YdNone},
		// YdBark
		{0, 0, []api.Deed{a, boiled, scrape(20, "A", bounds(20, 30))}, api.YdNone},
		{0, 0, []api.Deed{a, boiled, scrape(20, "A", bounds(21, 30))}, api.YdBark},
		{0, 3, []api.Deed{a, boiled, scrape(22, "A", known(21))}, api.YdSoon},
		{0, 0, []api.Deed{a, boiled, scrape(20, "A", known(12)), scrape(20, "A", known(9))}, api.YdBark},
		{0, 0, []api.Deed{a, boiled, scrape(20, "A", known(12)), scrape(20, "A", known(8))}, api.YdNone},
		// YdScale
		{9, 9, []api.Deed{a, weigh(20, "A", bounds(0, 15))}, api.YdNone},
		{9, 9, []api.Deed{a, weigh(20, "A", bounds(0, 14))}, api.YdScale},
		{9, 9, []api.Deed{a, weigh(20, "A", bounds(29, 99))}, api.YdNone},
		{9, 9, []api.Deed{a, weigh(20, "A", bounds(30, 99))}, api.YdScale},
		{9, 9, []api.Deed{a, weigh(20, "A", known(16)), weigh(20, "A", known(18))}, api.YdScale},
		{9, 9, []api.Deed{a, weigh(20, "A", known(16)), weigh(20, "A", known(17))}, api.YdNone},
	} {
		y, last := yardOf(x.before, x.after, x.deeds...), len(x.deeds)-1
		before, done, fault, e := yard.Follow(y, last)
		if done != last || fault != api.YdNone || e != api.OK {
			t.Error(i, "before", done, fault, e)
		}
		s, done, fault, e := yard.Follow(y, last+1)
		if fault != x.want || e != api.OK {
			t.Error(i, fault, e)
		}
		if fault != api.YdNone && (done != last || !sameStanding(s, before)) || fault == api.YdNone && done != last+1 {
			t.Error(i, done, s, before)
		}
	}
}

// P5.1: whatever the deeds are, it is as the chapter tells it, after each number of them.
func TestFollowIsAsTold(t *testing.T) {
	r := rand.New(rand.NewSource(1))
	faults := map[api.YardFault]int{}
	kinds := map[api.DeedKind]int{}
	for range often {
		y := someYard(r, 1+r.Intn(api.MaxDeeds), true)
		l := taleOf(y)
		for n := range len(y.Deeds) + 1 {
			s, done, fault := l.upTo(n)
			if got, k, f, e := yard.Follow(y, n); !sameStanding(got, s) || k != done || f != fault || e != api.OK {
				t.Fatal(y, n, got, k, f, e, s, done, fault)
			}
		}
		faults[l.fault]++
		for _, d := range y.Deeds[:len(l.after)-1] {
			kinds[d.Kind]++
		}
	}
	for fault := api.YdNone; fault <= api.YdScale; fault++ {
		if faults[fault] < 20 {
			t.Error("too few yards have the fault", faults)
		}
	}
	for kind := api.YdPile; kind <= api.YdSell; kind++ {
		if kinds[kind] < 400 {
			t.Error("too few deeds are of the kind", kinds)
		}
	}
}

// outcomes makes a deed with all numbers within all bounds, and returns what can really be so.
func outcomes(d api.Deed, dry, water api.Bounds) (l [][]api.Bounds) {
	for n := dry.Min; n <= dry.Max; n++ {
		for w := water.Min; w <= water.Max; w++ {
			for a := d.A.Min; a <= d.A.Max; a++ {
				for b := d.B.Min; b <= d.B.Max; b++ {
					if s, ok := outcome(d.Kind, n, w, a, b); ok {
						l = append(l, parts(s))
					}
				}
			}
		}
	}
	return l
}

// outcome is what really comes of a deed.
func outcome(kind api.DeedKind, dry, water, a, b int) (s api.Standing, ok bool) {
	var account api.Account
	other := api.Stack{}
	switch kind {
	case api.YdRest:
		account.Vapour = known(water * a / 1000)
		water -= water * a / 1000
	case api.YdBoil:
		account.Broth, account.Soaked = known(dry*a/1000), known(dry*b/1000)
		water += dry * b / 1000
		dry -= dry * a / 1000
	case api.YdScrape:
		if a > dry {
			return s, false
		}
		account.Dust = known(a)
		dry -= a
	case api.YdSplit:
		other.Dry, other.Water = known(dry*a/1000), known(water*a/1000)
		dry, water = dry-other.Dry.Min, water-other.Water.Min
	case api.YdWeigh:
		if dry+water != a {
			return s, false
		}
	}
	return api.Standing{Stacks: []api.Stack{{Dry: known(dry), Water: known(water)}, other}, Account: account}, true
}

// parts returns all bounds of a standing, of two stacks or of one.
func parts(s api.Standing) []api.Bounds {
	s.Stacks = append(slices.Clone(s.Stacks), api.Stack{})
	a := s.Account
	return []api.Bounds{s.Stacks[0].Dry, s.Stacks[0].Water, s.Stacks[1].Dry, s.Stacks[1].Water, a.Vapour, a.Broth, a.Dust, a.SoldDry, a.SoldWater, a.Soaked}
}

// P5.1, P5.5: of one deed, the bounds are just from the least to the greatest of all that can be; and there is a fault just if nothing can be.
func TestOneDeedCountedOut(t *testing.T) {
	r := rand.New(rand.NewSource(2))
	small := func(high, wide int) api.Bounds {
		low := max(0, r.Intn(high+wide)-wide)
		return bounds(low, min(high, low+r.Intn(wide)))
	}
	faults := 0
	for i := range 5000 {
		dry, water := small(12, 5), small(12, 5)
		d := []func() api.Deed{
			func() api.Deed { return rest(0, "A", small(1000, 50)) },
			func() api.Deed { return boil(0, "A", small(1000, 9), small(3000, 9)) },
			func() api.Deed { return scrape(0, "A", small(15, 6)) },
			func() api.Deed { return split(0, "A", "B", small(1000, 50)) },
			func() api.Deed { return weigh(0, "A", small(28, 6)) },
		}[i%5]()
		l := outcomes(d, dry, water)
		s, done, fault, e := yard.Follow(yardOf(0, 0, pile(0, "A", dry, water), boil(0, "A", known(0), known(0)), d), 3)
		if e != api.OK || (fault != api.YdNone) != (len(l) == 0) || done == 3 != (fault == api.YdNone) {
			t.Fatal(dry, water, d, s, done, fault, e)
		}
		if fault != api.YdNone {
			faults++
			continue
		}
		for p, b := range parts(s) {
			low, high := l[0][p].Min, 0
			for _, o := range l {
				low, high = min(low, o[p].Min), max(high, o[p].Max)
			}
			if b != bounds(low, high) {
				t.Fatal(dry, water, d, p, b, low, high)
			}
		}
	}
	if faults < 50 {
		t.Error("too few faults", faults)
	}
}

// P5.1: the greatest numbers.
func TestGreatest(t *testing.T) {
	deeds := []api.Deed{pile(2000, "A", known(api.MaxMass), known(api.MaxMass))}
	for range 38 {
		deeds = append(deeds, boil(2000, "A", known(0), known(api.MaxSoak)))
	}
	y := yardOf(0, 0, append(deeds, sell(2000, "A"))...)
	follows(t, "great", y, 39, api.Standing{Stacks: []api.Stack{stack("A", known(api.MaxMass), known(115*api.MaxMass), 2000, 2000, 0)}, Account: api.Account{Soaked: known(114 * api.MaxMass)}}, 39, api.YdNone)
	follows(t, "sold", y, 40, api.Standing{Account: api.Account{SoldDry: known(api.MaxMass), SoldWater: known(115 * api.MaxMass), Soaked: known(114 * api.MaxMass)}}, 40, api.YdNone)
	if b, e := yard.Moist(y, 39, "A"); b != known(115000) || e != api.OK {
		t.Error(b, e)
	}
	deeds = nil
	for i := range 20 {
		deeds = append(deeds, pile(0, "A", known(api.MaxMass), bounds(0, api.MaxMass)))
		if i > 0 {
			deeds = append(deeds, merge(0, "B", "A"))
		} else {
			deeds = append(deeds, split(0, "A", "B", known(1000)), merge(0, "B", "A"))
		}
	}
	deeds = deeds[:39]
	s, done, fault, e := yard.Follow(yardOf(0, 0, deeds...), 39)
	if len(s.Stacks) != 1 || s.Stacks[0].Dry != known(19*api.MaxMass) || s.Stacks[0].Water != bounds(0, 19*api.MaxMass) || len(s.Stacks[0].From) != 19 || done != 39 || fault != api.YdNone || e != api.OK {
		t.Error(s, done, fault, e)
	}
}
