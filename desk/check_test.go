package desk_test

import (
	"math"
	"math/rand"
	"slices"
	"strings"
	"testing"

	"sobreiro/api"
	"sobreiro/desk"
)

// fullWorks have as much as works can have, at the ends of all ranges.
func fullWorks() api.Works {
	w := api.Works{
		Year: api.MaxYear, Price: api.MaxKilo, Commons: 1000, Wage: api.MaxWage, Before: api.MaxResting, After: api.MaxResting,
		Weight: api.MaxHeavy, Wet: api.MaxSoak, Forest: api.Forest{Law: api.Law{Rest: 1}},
	}
	for i := range api.MaxPartners {
		w.Partners = append(w.Partners, api.Partner{Code: string(rune('A' + i)), Part: api.MaxPart})
	}
	for i := range api.MaxTrees {
		w.Forest.Trees = append(w.Forest.Trees, exampleTree(string(rune('A'+i))))
	}
	for range api.MaxEntries / 4 {
		w.Entries = append(w.Entries, cut(2000, "A2345678", 15000), cut(2000, "A", 1), hire(2000, 0), hire(2000, 1000))
	}
	return w
}

// P10.1: what is within its range, at its ends too, is valid, whether it has faults or not.
func TestChecksAccept(t *testing.T) {
	deeds := having(rest(0, "A", bounds(0, 1000)), boil(0, "A", known(1000), known(3000)), scrape(0, "A", known(api.MaxMass)), split(0, "A", "A", known(0)), merge(0, "B", "B"), weigh(0, "A", bounds(0, api.MaxMass)), sell(2000, "Z9-"))
	for i, w := range []api.Works{
		exampleWorks(), fullWorks(), deeds,
		{Weight: 1, Forest: api.Forest{Law: api.Law{Rest: 1}}},
		having(), having(cut(0, "S3", 1), cut(0, "S1", 15000), hire(0, 0)),
		changed(func(w *api.Works) { w.Partners = []api.Partner{{Code: "A"}, {Code: "B"}, {Code: "C"}} }),
	} {
		if e := desk.CheckWorks(w); e != api.OK {
			t.Error(i, e)
		}
		if _, _, _, e := desk.Replay(w, len(w.Entries)); e != api.OK {
			t.Error(i, e)
		}
		if _, e := desk.Print(w); e != api.OK {
			t.Error(i, e)
		}
	}
	for i, o := range []api.Orders{
		exampleOrders(), {}, {Lots: make([]api.CorkLot, 4), Contracts: make([]api.Contract, 4)},
		{Lots: []api.CorkLot{lot(9, 30), lot(0, 30)}, Contracts: []api.Contract{contract(9, 30, 1000), contract(0, 30, 0)}},
	} {
		if e := desk.CheckOrders(o); e != api.OK {
			t.Error(i, e)
		}
	}
}

// P10.1, R1: entries are checked one by one, and of an entry's errors the one named first decides.
func TestEntryErrors(t *testing.T) {
	with := func(n api.Entry, change func(n *api.Entry)) api.Entry {
		change(&n)
		return n
	}
	late, wrong := hire(9, 1), hire(9, -1)
	other := api.Deed{Kind: api.YdSell, Stack: "A"}
	for i, x := range []struct {
		entries []api.Entry
		want    api.Errno
	}{
		{slices.Repeat([]api.Entry{late}, 40), api.OK},
		{slices.Repeat([]api.Entry{late}, 41), api.ErrCount},
		{make([]api.Entry, 41), api.ErrCount},
		{make([]api.Entry, 40), api.ErrValue},
		{[]api.Entry{{Kind: 4}}, api.ErrValue},
		{[]api.Entry{{Kind: -1}}, api.ErrValue},
		{[]api.Entry{late, late, hire(10, 1)}, api.OK},
		{[]api.Entry{late, hire(8, 1)}, api.ErrOrder},
		{[]api.Entry{hire(0, 1), late, hire(8, -1)}, api.ErrOrder},
		{[]api.Entry{late, hire(-1, 1)}, api.ErrValue},
		{[]api.Entry{late, {Kind: 7, Day: 8}}, api.ErrValue},
		{[]api.Entry{late, cut(8, "a", 0)}, api.ErrOrder},
		{[]api.Entry{late, sell(8, "a")}, api.ErrOrder},
		{[]api.Entry{cut(9, "a", 0)}, api.ErrCode},
		{[]api.Entry{cut(9, "", 1)}, api.ErrCode},
		{[]api.Entry{cut(9, "A", 0)}, api.ErrValue},
		{[]api.Entry{cut(9, "A", 15001)}, api.ErrValue},
		{[]api.Entry{hire(9, -1)}, api.ErrValue},
		{[]api.Entry{hire(9, 1001)}, api.ErrValue},
		// What a kind does not use is zero.
		{[]api.Entry{with(cut(0, "A", 1), func(n *api.Entry) { n.Deed.Stack = "A" })}, api.ErrValue},
		{[]api.Entry{with(cut(0, "A", 1), func(n *api.Entry) { n.Deed = other })}, api.ErrValue},
		{[]api.Entry{with(cut(7, "A", 1), func(n *api.Entry) { n.Deed.Day = 7 })}, api.ErrValue},
		{[]api.Entry{with(cut(0, "a", 1), func(n *api.Entry) { n.Deed = other })}, api.ErrCode},
		{[]api.Entry{with(hire(0, 1), func(n *api.Entry) { n.Tree = "A" })}, api.ErrValue},
		{[]api.Entry{with(hire(0, 1), func(n *api.Entry) { n.Tree = "a" })}, api.ErrValue},
		{[]api.Entry{with(hire(0, 1), func(n *api.Entry) { n.Deed = other })}, api.ErrValue},
		{[]api.Entry{with(hire(7, 1), func(n *api.Entry) { n.Deed.B.Max = 1 })}, api.ErrValue},
		{[]api.Entry{with(sell(0, "A"), func(n *api.Entry) { n.N = 1 })}, api.ErrValue},
		{[]api.Entry{with(sell(0, "A"), func(n *api.Entry) { n.Tree = "A" })}, api.ErrValue},
		{[]api.Entry{with(sell(0, "a"), func(n *api.Entry) { n.Tree = "a" })}, api.ErrValue},
		// A deed has the day of its entry, and is no pile.
		{[]api.Entry{with(sell(5, "A"), func(n *api.Entry) { n.Day = 6 })}, api.ErrValue},
		{[]api.Entry{with(sell(5, "a"), func(n *api.Entry) { n.Day = 4 })}, api.ErrValue},
		{[]api.Entry{deed(api.Deed{Kind: api.YdPile, Stack: "A", A: known(1), B: known(1)})}, api.ErrValue},
		{[]api.Entry{deed(api.Deed{Kind: api.YdPile, Stack: "a"})}, api.ErrValue},
		{[]api.Entry{deed(api.Deed{Stack: "a"})}, api.ErrValue},
		{[]api.Entry{deed(api.Deed{})}, api.ErrValue},
		{[]api.Entry{deed(api.Deed{Kind: 9, Stack: "a"})}, api.ErrValue},
		// The errors of a deed alone
		{[]api.Entry{sell(5, "a")}, api.ErrCode},
		{[]api.Entry{sell(5, "")}, api.ErrCode},
		{[]api.Entry{split(5, "A", "b", known(1))}, api.ErrCode},
		{[]api.Entry{split(5, "A", "B", known(1001))}, api.ErrValue},
		{[]api.Entry{rest(5, "a", bounds(2, 1))}, api.ErrCode},
		{[]api.Entry{rest(5, "A", bounds(2, 1))}, api.ErrValue},
		{[]api.Entry{boil(5, "A", known(0), known(3001))}, api.ErrValue},
		{[]api.Entry{with(sell(5, "A"), func(n *api.Entry) { n.Deed.Other = "B" })}, api.ErrValue},
		{[]api.Entry{with(sell(5, "A"), func(n *api.Entry) { n.Deed.A.Max = 1 })}, api.ErrValue},
		// The first entry with an error decides.
		{[]api.Entry{wrong, sell(9, "a")}, api.ErrValue},
		{[]api.Entry{sell(9, "a"), wrong}, api.ErrCode},
		{[]api.Entry{late, hire(8, 1), wrong}, api.ErrOrder},
		{[]api.Entry{sell(9, "a"), hire(8, 1)}, api.ErrCode},
	} {
		if e := desk.CheckWorks(having(x.entries...)); e != x.want {
			t.Error(i, e)
		}
	}
}

// call is what the functions are asked with.
type call struct {
	w                api.Works
	n                int
	sum              int
	parts            []int
	o                api.Orders
	lots, contracts  []int
	question, sealed string
	lines            []string
}

func exampleCall() call {
	return call{exampleWorks(), 4, 10, []int{1, 1, 1}, exampleOrders(), []int{0, 0}, []int{9, 5}, "shares", pageOf(1, "AB"), []string{"AB", "C"}}
}

// mistake makes a call invalid.
type mistake func(x *call)

// check is what the functions look at in one go: mistakes that it finds, and its error.
type check struct {
	e        api.Errno
	mistakes []mistake
}

// number adds the mistakes of a number that has to be from low to high.
func (c *check) number(low, high int, set func(x *call, n int)) {
	for _, n := range outside(low, high) {
		c.mistakes = append(c.mistakes, func(x *call) { set(x, n) })
	}
}

var noCodes = []string{"", "a", "9", "A_", "A;", "A23456789", "\xff"}

func worksChecks() []check {
	value := check{e: api.ErrValue}
	value.number(0, api.MaxYear, func(x *call, n int) { x.w.Year = n })
	value.number(0, api.MaxKilo, func(x *call, n int) { x.w.Price = n })
	value.number(0, 1000, func(x *call, n int) { x.w.Commons = n })
	value.number(0, api.MaxWage, func(x *call, n int) { x.w.Wage = n })
	value.number(0, api.MaxResting, func(x *call, n int) { x.w.Before = n })
	value.number(0, api.MaxResting, func(x *call, n int) { x.w.After = n })
	value.number(1, api.MaxHeavy, func(x *call, n int) { x.w.Weight = n })
	value.number(0, api.MaxSoak, func(x *call, n int) { x.w.Wet = n })
	partners := check{api.ErrCount, []mistake{
		func(x *call) { x.w.Partners = append(x.w.Partners, make([]api.Partner, 5)...) },
		func(x *call) { x.w.Partners = append(x.w.Partners, make([]api.Partner, 1000)...) },
	}}
	entries := check{api.ErrCount, []mistake{
		func(x *call) { x.w.Entries = append(x.w.Entries, make([]api.Entry, 37)...) },
		func(x *call) { x.w.Entries = append(x.w.Entries, make([]api.Entry, 1000)...) },
	}}
	return slices.Concat([]check{value, partners}, partnerChecks(0), partnerChecks(1), forestChecks(), []check{entries}, cutChecks(), hireChecks(), deedChecks(2), deedChecks(3))
}

func partnerChecks(i int) []check {
	code, repeat, value := check{e: api.ErrCode}, check{e: api.ErrRepeat}, check{e: api.ErrValue}
	for _, s := range noCodes {
		code.mistakes = append(code.mistakes, func(x *call) { x.w.Partners[i].Code = s })
	}
	if i > 0 {
		repeat.mistakes = []mistake{func(x *call) { x.w.Partners[i].Code = x.w.Partners[0].Code }}
	}
	value.number(0, api.MaxPart, func(x *call, n int) { x.w.Partners[i].Part = n })
	return []check{code, repeat, value}
}

// forestChecks are some of those of tree.
func forestChecks() []check {
	tree := func(change func(x *api.Tree)) mistake {
		return func(x *call) { change(&x.w.Forest.Trees[0]) }
	}
	return []check{
		{api.ErrValue, []mistake{func(x *call) { x.w.Forest.Law.Rest = 0 }, func(x *call) { x.w.Forest.Law.Factors[2] = 51 }}},
		{api.ErrCount, []mistake{func(x *call) { x.w.Forest.Trees = append(x.w.Forest.Trees, make([]api.Tree, 20)...) }}},
		{api.ErrCode, []mistake{tree(func(x *api.Tree) { x.Code = "s1" })}},
		{api.ErrValue, []mistake{tree(func(x *api.Tree) { x.Dead = 301 }), tree(func(x *api.Tree) { x.Born = bounds(2, 1) })}},
		{api.ErrCount, []mistake{tree(func(x *api.Tree) { x.Strips = make([]api.Strip, 11) })}},
		{api.ErrOrder, []mistake{tree(func(x *api.Tree) { x.Wounds = []int{7, 7} })}},
	}
}

// dayChecks are the checks of an entry's kind and day.
func dayChecks(i int) []check {
	value, order := check{e: api.ErrValue}, check{e: api.ErrOrder}
	value.number(0, api.MaxYardDay, func(x *call, n int) { x.w.Entries[i].Day = n })
	value.number(1, 3, func(x *call, n int) { x.w.Entries[i].Kind = api.EntryKind(n) })
	if i > 0 {
		order.mistakes = []mistake{func(x *call) { x.w.Entries[i].Day = 9 }, func(x *call) { x.w.Entries[i].Day = 0 }}
	}
	return []check{value, order}
}

func cutChecks() []check {
	code, value := check{e: api.ErrCode}, check{e: api.ErrValue}
	for _, s := range noCodes {
		code.mistakes = append(code.mistakes, func(x *call) { x.w.Entries[0].Tree = s })
	}
	value.number(1, api.MaxHeight, func(x *call, n int) { x.w.Entries[0].N = n })
	value.mistakes = append(value.mistakes, func(x *call) { x.w.Entries[0].Deed.Day = 10 }, func(x *call) { x.w.Entries[0].Deed.Other = "A" })
	return append(dayChecks(0), code, value)
}

func hireChecks() []check {
	value := check{e: api.ErrValue}
	value.number(0, api.MaxDays, func(x *call, n int) { x.w.Entries[1].N = n })
	value.mistakes = append(value.mistakes, func(x *call) { x.w.Entries[1].Tree = "S1" }, func(x *call) { x.w.Entries[1].Deed.Kind = api.YdSell })
	return append(dayChecks(1), value)
}

func deedChecks(i int) []check {
	own := check{api.ErrValue, []mistake{
		func(x *call) { x.w.Entries[i].N = 1 },
		func(x *call) { x.w.Entries[i].N = math.MinInt },
		func(x *call) { x.w.Entries[i].Tree = "S1" },
		func(x *call) { x.w.Entries[i].Deed.Day++ },
		func(x *call) { x.w.Entries[i].Deed.Day = -1 },
		func(x *call) { x.w.Entries[i].Deed.Kind = api.YdPile },
		func(x *call) { x.w.Entries[i].Deed.Kind = api.YdNothing },
	}}
	code, value := check{e: api.ErrCode}, check{e: api.ErrValue}
	for _, s := range noCodes {
		code.mistakes = append(code.mistakes, func(x *call) { x.w.Entries[i].Deed.Stack = s })
	}
	for _, b := range []api.Bounds{bounds(2, 1), known(-1), known(api.MaxMass + 1), bounds(math.MinInt, math.MaxInt)} {
		value.mistakes = append(value.mistakes, func(x *call) { x.w.Entries[i].Deed.A = b })
	}
	value.mistakes = append(value.mistakes, func(x *call) { x.w.Entries[i].Deed.Other = "A" })
	return append(dayChecks(i), own, code, value)
}

func ordersChecks() []check {
	l := []check{{api.ErrCount, []mistake{
		func(x *call) { x.o.Lots = append(x.o.Lots, make([]api.CorkLot, 3)...) },
		func(x *call) { x.o.Lots = append(x.o.Lots, make([]api.CorkLot, 1000)...) },
	}}}
	for i := range 2 {
		value := check{e: api.ErrValue}
		value.number(0, api.MaxCorkClass, func(x *call, n int) { x.o.Lots[i].Class = n })
		value.number(0, api.MaxCount, func(x *call, n int) { x.o.Lots[i].Count = n })
		l = append(l, value)
	}
	l = append(l, check{api.ErrCount, []mistake{
		func(x *call) { x.o.Contracts = append(x.o.Contracts, make([]api.Contract, 3)...) },
		func(x *call) { x.o.Contracts = append(x.o.Contracts, make([]api.Contract, 1000)...) },
	}})
	for i := range 2 {
		value := check{e: api.ErrValue}
		value.number(0, api.MaxCorkClass, func(x *call, n int) { x.o.Contracts[i].Class = n })
		value.number(0, api.MaxCount, func(x *call, n int) { x.o.Contracts[i].Count = n })
		value.number(0, api.MaxOffer, func(x *call, n int) { x.o.Contracts[i].Price = n })
		l = append(l, value)
	}
	return l
}

// rentsChecks are those of rents, of which there can be too few to spoil one.
func rentsChecks() []check {
	count := check{api.ErrCount, []mistake{
		func(x *call) { x.lots = x.lots[:1] },
		func(x *call) { x.lots = append(x.lots, 0) },
		func(x *call) { x.contracts = nil },
		func(x *call) { x.contracts = append(x.contracts, make([]int, 1000)...) },
	}}
	value := check{e: api.ErrValue}
	value.number(0, api.MaxOffer, func(x *call, n int) { x.lots[0] = n })
	value.number(0, api.MaxOffer, func(x *call, n int) { x.contracts[1] = n })
	return []check{count, value}
}

func shareChecks() []check {
	sum, value := check{e: api.ErrValue}, check{e: api.ErrValue}
	sum.number(0, api.MaxSum, func(x *call, n int) { x.sum = n })
	value.number(0, api.MaxPart, func(x *call, n int) { x.parts[0] = n })
	value.number(0, api.MaxPart, func(x *call, n int) { x.parts[2] = n })
	count := check{api.ErrCount, []mistake{
		func(x *call) { x.parts = append(x.parts, 0, 0, 0, 0) },
		func(x *call) { x.parts = append(x.parts, make([]int, 1000)...) },
	}}
	return []check{sum, count, value}
}

func sealChecks() []check {
	return []check{
		{api.ErrCount, []mistake{func(x *call) { x.lines = append(x.lines, make([]string, 399)...) }}},
		{api.ErrText, []mistake{func(x *call) { x.lines[0] = "A\n" }, func(x *call) { x.lines[1] = strings.Repeat("A", 201) }}},
	}
}

func firstCheck() check {
	c := check{e: api.ErrValue}
	c.number(0, 4, func(x *call, n int) { x.n = n })
	return c
}

// settleChecks are those of a year that has a fault, or in which too little is earned.
func settleChecks() []check {
	return []check{
		{api.ErrAgainst, []mistake{
			func(x *call) { x.w.Entries[0].N = 1433 },
			func(x *call) { x.w.Entries[0].Tree = "S2" },
			func(x *call) { x.w.Before = 11 },
			func(x *call) { x.w.After = 11 },
		}},
		{api.ErrRoom, []mistake{
			func(x *call) { x.w.Wage = 176 },
			func(x *call) { x.w.Price = 2 },
		}},
	}
}

// ordered checks a function: each mistake has its error, and of two the one of the earlier check decides.
func ordered(t *testing.T, name string, checks []check, ask func(x call) (zero bool, e api.Errno)) {
	t.Helper()
	if _, e := ask(exampleCall()); e != api.OK {
		t.Error(name, "without a mistake", e)
	}
	for i, first := range checks {
		for n, a := range first.mistakes {
			x := exampleCall()
			a(&x)
			if zero, e := ask(x); !zero || e != first.e {
				t.Error(name, i, n, zero, e)
			}
			for j, later := range checks[i+1:] {
				for m, b := range later.mistakes {
					x := exampleCall()
					b(&x)
					a(&x)
					if zero, e := ask(x); !zero || e != first.e {
						t.Error(name, i, n, "before", i+1+j, m, zero, e)
					}
				}
			}
		}
	}
}

// P10.1 to P10.5, P0.1: the errors of all functions, in their order, and zero values with them.
func TestErrors(t *testing.T) {
	ordered(t, "CheckWorks", worksChecks(), func(x call) (bool, api.Errno) { return true, desk.CheckWorks(x.w) })
	ordered(t, "Replay", append(worksChecks(), firstCheck()), func(x call) (bool, api.Errno) {
		y, done, fault, e := desk.Replay(x.w, x.n)
		return sameDesk(y, api.Desk{}) && done == 0 && fault == api.DeskFault{}, e
	})
	ordered(t, "Share", shareChecks(), func(x call) (bool, api.Errno) {
		l, e := desk.Share(x.sum, x.parts)
		return l == nil, e
	})
	ordered(t, "Settle", append(worksChecks(), settleChecks()...), func(x call) (bool, api.Errno) {
		s, e := desk.Settle(x.w)
		return sameSettlement(s, api.Settlement{}), e
	})
	ordered(t, "CheckOrders", ordersChecks(), func(x call) (bool, api.Errno) { return true, desk.CheckOrders(x.o) })
	ordered(t, "Fill", ordersChecks(), func(x call) (bool, api.Errno) {
		filling, worth, e := desk.Fill(x.o)
		return filling == nil && worth == 0, e
	})
	ordered(t, "Rents", ordersChecks(), func(x call) (bool, api.Errno) {
		lots, contracts, e := desk.Rents(x.o)
		return lots == nil && contracts == nil, e
	})
	ordered(t, "Proves", append(ordersChecks(), rentsChecks()...), func(x call) (bool, api.Errno) {
		total, ok, e := desk.Proves(x.o, x.lots, x.contracts)
		return total == 0 && !ok, e
	})
	form := check{api.ErrText, []mistake{func(x *call) { x.question = "share" }, func(x *call) { x.question = "" }, func(x *call) { x.question += "\n" }}}
	ordered(t, "Ask", slices.Concat(worksChecks(), []check{form}, settleChecks()), func(x call) (bool, api.Errno) {
		s, e := desk.Ask(x.w, x.question)
		return s == "", e
	})
	ordered(t, "Seal", sealChecks(), func(x call) (bool, api.Errno) {
		s, e := desk.Seal(x.lines)
		return s == "", e
	})
	ordered(t, "Print", worksChecks(), func(x call) (bool, api.Errno) {
		s, e := desk.Print(x.w)
		return s == "", e
	})
}

// P0.1: whatever is asked, there is an answer, and no other result with an error.
func TestAnyArguments(t *testing.T) {
	r := rand.New(rand.NewSource(20))
	all := slices.Concat(worksChecks(), []check{firstCheck()}, settleChecks(), ordersChecks(), shareChecks(), sealChecks(), rentsChecks())
	for range 4 * often {
		x := exampleCall()
		for _, c := range slices.Backward(all) {
			if len(c.mistakes) > 0 && r.Intn(40) == 0 {
				c.mistakes[r.Intn(len(c.mistakes))](&x)
			}
		}
		ofWorks, ofOrders := desk.CheckWorks(x.w), desk.CheckOrders(x.o)
		y, done, fault, e := desk.Replay(x.w, x.n)
		if ofWorks != api.OK && e != ofWorks || e != api.OK && (!sameDesk(y, api.Desk{}) || done != 0 || fault != api.DeskFault{}) || e == api.OK && (done == x.n) != (fault == api.DeskFault{}) {
			t.Fatal(x, y, done, fault, e)
		}
		if s, e := desk.Settle(x.w); ofWorks != api.OK && e != ofWorks || e != api.OK && !sameSettlement(s, api.Settlement{}) {
			t.Fatal(x, s, e)
		}
		if s, e := desk.Ask(x.w, x.question); ofWorks != api.OK && e != ofWorks || (e == api.OK) != strings.HasPrefix(s, "shares;") {
			t.Fatal(x, s, e)
		}
		if s, e := desk.Print(x.w); e != ofWorks || (e == api.OK) != strings.HasPrefix(s, "works;") {
			t.Fatal(x, s, e)
		}
		if l, e := desk.Share(x.sum, x.parts); (e == api.OK) != (len(l) == len(x.parts) && l != nil) {
			t.Fatal(x, l, e)
		}
		if filling, worth, e := desk.Fill(x.o); e != ofOrders || e != api.OK && (filling != nil || worth != 0) {
			t.Fatal(x, filling, worth, e)
		}
		if lots, contracts, e := desk.Rents(x.o); e != ofOrders || e != api.OK && (lots != nil || contracts != nil) {
			t.Fatal(x, lots, contracts, e)
		}
		if total, ok, e := desk.Proves(x.o, x.lots, x.contracts); ofOrders != api.OK && e != ofOrders || e != api.OK && (total != 0 || ok) {
			t.Fatal(x, total, ok, e)
		}
		if s, e := desk.Seal(x.lines); (e == api.OK) != strings.HasPrefix(s, "page;") {
			t.Fatal(x, s, e)
		}
	}
}

// R3: nil and empty slices are the same value.
func TestNilAndEmpty(t *testing.T) {
	law := api.Forest{Law: api.Law{Rest: 1}}
	for i, w := range []api.Works{
		{Weight: 1, Forest: law},
		{Weight: 1, Forest: api.Forest{Law: law.Law, Trees: []api.Tree{}}, Partners: []api.Partner{}, Entries: []api.Entry{}},
	} {
		if y, done, fault, e := desk.Replay(w, 0); !sameDesk(y, api.Desk{Forest: law}) || done != 0 || fault != (api.DeskFault{}) || e != api.OK {
			t.Error(i, y, done, fault, e)
		}
		if s, e := desk.Settle(w); !sameSettlement(s, api.Settlement{}) || e != api.OK {
			t.Error(i, s, e)
		}
		if s, e := desk.Print(w); s != "works;0;0;0;0;0;0;1;0\nlaw;0;1;0;0;0;0;0\n" || e != api.OK {
			t.Error(i, s, e)
		}
		asks(t, i, w, "shares", "shares;0;0;0", api.OK)
	}
	for i, o := range []api.Orders{{}, {Lots: []api.CorkLot{}, Contracts: []api.Contract{}}} {
		if filling, worth, e := desk.Fill(o); len(filling) > 0 || worth != 0 || e != api.OK {
			t.Error(i, filling, worth, e)
		}
		for _, none := range [][]int{nil, {}} {
			if total, ok, e := desk.Proves(o, none, none); total != 0 || !ok || e != api.OK {
				t.Error(i, total, ok, e)
			}
		}
	}
	for _, none := range [][]string{nil, {}} {
		if s, e := desk.Seal(none); s != "" || e != api.OK {
			t.Error(s, e)
		}
	}
	if l, e := desk.Share(5, []int{}); len(l) > 0 || e != api.OK {
		t.Error(l, e)
	}
}

// withRoom returns a list that has room after it, which nobody is to use.
func withRoom[T any](l []T) []T { return append(make([]T, 0, 2*len(l)), l...) }

// hasRoomLeft says whether the room after a list is as it was.
func hasRoomLeft[T comparable](l []T) bool {
	var zero T
	return !slices.ContainsFunc(l[len(l):2*len(l)], func(t T) bool { return t != zero })
}

// roomy returns works all whose lists have room after them.
func roomy() api.Works {
	w := having(cut(1, "S1", 1000), cut(1, "S2", 1000), merge(1, "S1", "S2"), split(1, "S1", "A", known(500)), split(1, "A", "B", known(500)), boil(1, "B", known(0), known(0)), sell(1, "B"), hire(1, 1))
	w.Partners, w.Entries, w.Forest.Trees = withRoom(w.Partners), withRoom(w.Entries), append(make([]api.Tree, 0, 4), w.Forest.Trees...)
	for i := range w.Forest.Trees {
		x := &w.Forest.Trees[i]
		x.Strips, x.Wounds = withRoom([]api.Strip{{Year: 9, Height: 9}, {Year: 99, Height: 9}}), withRoom([]int{3, 4})
	}
	return w
}

// R4: no argument is changed, and no result shares memory with one, or with another part of it.
func TestArgumentsAreKept(t *testing.T) {
	w := roomy()
	kept := copyWorks(w)
	want, _, _ := taleOf(kept).upTo(8)
	y, _, _, _ := desk.Replay(w, 8)
	desk.CheckWorks(w)
	desk.Settle(w)
	desk.Ask(w, "shares")
	desk.Print(w)
	if !sameDesk(y, want) || len(y.Yard.Stacks) != 2 {
		t.Error(y)
	}
	for i := range y.Forest.Trees {
		clear(y.Forest.Trees[i].Strips)
		clear(y.Forest.Trees[i].Wounds)
		_ = append(y.Forest.Trees[i].Strips, api.Strip{Year: 7})
		_ = append(y.Forest.Trees[i].Wounds, 7)
	}
	clear(y.Forest.Trees)
	clear(y.Yard.Stacks[0].From)
	if !slices.Equal(y.Yard.Stacks[1].From, []int{0, 1}) {
		t.Error(y)
	}
	if !sameWorks(w, kept) || !hasRoomLeft(w.Partners) || !hasRoomLeft(w.Entries) || w.Forest.Trees[:3][2].Code != "" {
		t.Error(w)
	}
	for _, x := range w.Forest.Trees {
		if !hasRoomLeft(x.Strips) || !hasRoomLeft(x.Wounds) {
			t.Error(x)
		}
	}
	if again, _, _, _ := desk.Replay(w, 8); !sameDesk(again, want) {
		t.Error(again)
	}
}

// R4: neither are orders, parts, rents and lines.
func TestListsAreKept(t *testing.T) {
	o := api.Orders{Lots: withRoom([]api.CorkLot{lot(0, 3), lot(1, 2)}), Contracts: withRoom([]api.Contract{contract(0, 2, 5), contract(1, 2, 9)})}
	kept := copyOrders(o)
	filling, _, _ := desk.Fill(o)
	lots, contracts, _ := desk.Rents(o)
	lots, contracts = withRoom(lots), withRoom(contracts)
	desk.Proves(o, lots, contracts)
	if !hasRoomLeft(lots) || !hasRoomLeft(contracts) {
		t.Error(lots, contracts)
	}
	clear(filling[0])
	_ = append(filling[0], 7)
	if !slices.Equal(filling[1], []int{0, 2}) {
		t.Error(filling)
	}
	if !slices.Equal(o.Lots, kept.Lots) || !slices.Equal(o.Contracts, kept.Contracts) || !hasRoomLeft(o.Lots) || !hasRoomLeft(o.Contracts) {
		t.Error(o)
	}
	parts := withRoom([]int{1, 2, 3})
	shares, _ := desk.Share(6, parts)
	clear(shares)
	if !slices.Equal(parts, []int{1, 2, 3}) || !hasRoomLeft(parts) {
		t.Error(parts)
	}
	lines := withRoom([]string{"A", "B"})
	desk.Seal(lines)
	if !slices.Equal(lines, []string{"A", "B"}) || !hasRoomLeft(lines) {
		t.Error(lines)
	}
}
