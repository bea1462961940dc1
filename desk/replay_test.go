package desk_test

import (
	"math/rand"
	"slices"
	"testing"

	"sobreiro/api"
	"sobreiro/desk"
	"sobreiro/tree"
	"sobreiro/yard"
)

func stackOf(code string, dry, water api.Bounds, piled, boiled int, from ...int) api.Stack {
	return api.Stack{Code: code, Dry: dry, Water: water, Piled: piled, Boiled: boiled, From: from}
}

// replays checks what Replay returns of the yard, and how far it comes.
func replays(t *testing.T, i int, w api.Works, n int, stacks []api.Stack, done int, fault api.DeskFault) api.Desk {
	t.Helper()
	y, d, f, e := desk.Replay(w, n)
	if !slices.EqualFunc(y.Yard.Stacks, stacks, sameStack) || d != done || f != fault || e != api.OK {
		t.Error(i, y, d, f, e)
	}
	return y
}

// P10.1: the chapter's example, entry by entry.
func TestReplay(t *testing.T) {
	w := exampleWorks()
	none := api.DeskFault{}
	piled := stackOf("S1", bounds(14000, 14320), bounds(4200, 4296), 10, -1, 0)
	boiled := piled
	boiled.Boiled = 20
	y := replays(t, 0, w, 0, nil, 0, none)
	if !sameForest(y.Forest, w.Forest) || y.Days != 0 || y.Earned != (api.Bounds{}) || y.Yard.Account != (api.Account{}) {
		t.Error(y)
	}
	y = replays(t, 1, w, 1, []api.Stack{piled}, 1, none)
	if !slices.Equal(y.Forest.Trees[0].Strips, []api.Strip{{Year: 42, Height: 1000}}) || y.Days != 0 {
		t.Error(y)
	}
	if y = replays(t, 2, w, 2, []api.Stack{piled}, 2, none); y.Days != 8 {
		t.Error(y)
	}
	replays(t, 3, w, 3, []api.Stack{boiled}, 3, none)
	y = replays(t, 4, w, 4, nil, 4, none)
	if y.Earned != bounds(1400, 1432) || y.Days != 8 || y.Yard.Account != (api.Account{SoldDry: bounds(14000, 14320), SoldWater: bounds(4200, 4296)}) {
		t.Error(y)
	}
}

// P10.1: a strip has its place by the year, and a tree's earlier and later strips stay.
func TestStripsAreEntered(t *testing.T) {
	for i, x := range []struct{ before, after []int }{
		{nil, []int{42}},
		{[]int{33}, []int{33, 42}},
		{[]int{51}, []int{42, 51}},
		{[]int{1, 33, 51, 60}, []int{1, 33, 42, 51, 60}},
		{[]int{1, 2, 3, 4, 5, 6, 7, 8, 9}, []int{1, 2, 3, 4, 5, 6, 7, 8, 9, 42}},
		{[]int{51, 52, 53, 54, 55, 56, 57, 58, 300}, []int{42, 51, 52, 53, 54, 55, 56, 57, 58, 300}},
	} {
		w := exampleWorks()
		for _, year := range x.before {
			w.Forest.Trees[0].Strips = append(w.Forest.Trees[0].Strips, api.Strip{Year: year, Height: year + 5})
		}
		y, done, fault, e := desk.Replay(w, 4)
		if done != 4 || fault != (api.DeskFault{}) || e != api.OK {
			t.Fatal(i, done, fault, e)
		}
		var want []api.Strip
		for _, year := range x.after {
			want = append(want, api.Strip{Year: year, Height: year + 5})
		}
		want[slices.Index(x.after, 42)].Height = 1000
		if !slices.Equal(y.Forest.Trees[0].Strips, want) {
			t.Error(i, y.Forest.Trees[0].Strips)
		}
	}
}

// P10.1: bark is reckoned by the area, each of its ends by itself, and rounded down.
func TestBark(t *testing.T) {
	for i, x := range []struct {
		height, weight, wet int
		dry, water          api.Bounds
	}{
		{1000, 2, 300, bounds(14000, 14320), bounds(4200, 4296)},
		{1000, 1, 0, bounds(7000, 7160), bounds(0, 0)},
		{1000, 10, 3000, bounds(70000, 71600), bounds(210000, 214800)},
		{1, 1, 999, bounds(7, 8), bounds(6, 7)},
		{1, 10, 333, bounds(70, 80), bounds(23, 26)},
		{3, 3, 1001, bounds(63, 66), bounds(63, 66)},
		{1, 1, 124, bounds(7, 8), bounds(0, 0)},
		{1, 1, 125, bounds(7, 8), bounds(0, 1)},
	} {
		w := exampleWorks()
		w.Entries, w.Weight, w.Wet = []api.Entry{cut(7, "S1", x.height)}, x.weight, x.wet
		replays(t, i, w, 1, []api.Stack{stackOf("S1", x.dry, x.water, 7, -1, 0)}, 1, api.DeskFault{})
	}
	// The greatest tree fits the yard.
	w := exampleWorks()
	w.Year, w.Weight, w.Wet, w.Forest.Law.Factors = 300, 10, 3000, [3]int{50, 50, 50}
	w.Forest.Trees[0] = api.Tree{Code: "S1", Girth: known(6000), Grows: known(50), Dead: -1}
	w.Entries = []api.Entry{cut(2000, "S1", 15000)}
	replays(t, 100, w, 1, []api.Stack{stackOf("S1", known(31500000), known(94500000), 2000, -1, 0)}, 1, api.DeskFault{})
}

// P10.1: a stack's sources are entries, whatever is hired in between.
func TestSourcesAreEntries(t *testing.T) {
	dry, water := bounds(14000, 14320), bounds(4200, 4296)
	w := having(hire(1, 5), cut(1, "S2", 1000), hire(2, 0), cut(3, "S1", 1000), split(3, "S1", "X", known(0)), hire(4, 1000), merge(5, "S1", "S2"))
	replays(t, 0, w, 4, []api.Stack{stackOf("S2", dry, water, 1, -1, 1), stackOf("S1", dry, water, 3, -1, 3)}, 4, api.DeskFault{})
	two := func(b api.Bounds) api.Bounds { return bounds(2*b.Min, 2*b.Max) }
	y := replays(t, 1, w, 7, []api.Stack{stackOf("S1", two(dry), two(water), 3, -1, 1, 3), stackOf("X", known(0), known(0), 3, -1, 3)}, 7, api.DeskFault{})
	if y.Days != 1005 {
		t.Error(y.Days)
	}
}

// P10.1: each fault of an entry, and the first of several.
func TestFaults(t *testing.T) {
	first := func(change func(x *api.Tree), height int) api.Works {
		w := having(hire(0, 1), cut(5, "S1", height))
		change(&w.Forest.Trees[0])
		return w
	}
	full := func(x *api.Tree) {
		for year := range 10 {
			x.Strips = append(x.Strips, api.Strip{Year: year, Height: 1})
		}
	}
	none := func(x *api.Tree) {}
	law := func(rule api.Rule) api.DeskFault { return api.DeskFault{Kind: api.DkLaw, Detail: int(rule)} }
	inYard := func(f api.YardFault) api.DeskFault { return api.DeskFault{Kind: api.DkYard, Detail: int(f)} }
	for i, x := range []struct {
		w     api.Works
		done  int
		fault api.DeskFault
	}{
		{having(cut(5, "S3", 1000)), 0, api.DeskFault{Kind: api.DkTree}},
		{having(cut(5, "S", 1000)), 0, api.DeskFault{Kind: api.DkTree}},
		{changed(func(w *api.Works) { w.Forest.Trees = nil }), 0, api.DeskFault{Kind: api.DkTree}},
		{first(full, 1000), 1, api.DeskFault{Kind: api.DkRoom}},
		{first(func(x *api.Tree) { full(x); x.Dead = 0 }, 15000), 1, api.DeskFault{Kind: api.DkRoom}},
		{first(func(x *api.Tree) { full(x); x.Strips = x.Strips[1:] }, 1000), 2, api.DeskFault{}},
		// The law: surely broken, or only possibly kept.
		{first(none, 1400), 2, api.DeskFault{}},
		{first(none, 1401), 1, law(api.TrHeight)},
		{first(none, 1432), 1, law(api.TrHeight)},
		{first(none, 1433), 1, law(api.TrHeight)},
		{first(func(x *api.Tree) { x.Dead = 42 }, 1), 1, law(api.TrDead)},
		{first(func(x *api.Tree) { x.Dead = 43 }, 1), 2, api.DeskFault{}},
		{first(func(x *api.Tree) { x.Born = bounds(10, 17) }, 1), 2, api.DeskFault{}},
		{first(func(x *api.Tree) { x.Born = bounds(10, 18) }, 1), 1, law(api.TrAge)},
		{first(func(x *api.Tree) { x.Strips = []api.Strip{{Year: 34, Height: 1}} }, 1), 1, law(api.TrRest)},
		{first(func(x *api.Tree) { x.Strips = []api.Strip{{Year: 50, Height: 1}} }, 1), 1, law(api.TrRest)},
		{first(func(x *api.Tree) { x.Strips = []api.Strip{{Year: 42, Height: 1}} }, 1), 1, law(api.TrRest)},
		{first(func(x *api.Tree) { x.Wounds = []int{40} }, 1), 1, law(api.TrHeal)},
		{first(func(x *api.Tree) { x.Girth = bounds(689, 700) }, 1), 1, law(api.TrGirth)},
		{having(cut(5, "S1", 1000), cut(5, "S1", 1)), 1, law(api.TrRest)},
		// The yard.
		{having(cut(5, "S1", 1000), sell(6, "S1")), 1, inYard(api.YdSoon)},
		{having(sell(6, "S1")), 0, inYard(api.YdStack)},
		{having(hire(0, 5), hire(0, 5), boil(5, "S2", known(0), known(0))), 2, inYard(api.YdStack)},
		{having(cut(5, "S1", 1), boil(5, "S1", known(0), known(0)), scrape(5, "S1", known(17))), 2, inYard(api.YdBark)},
		{having(cut(5, "S1", 1), weigh(5, "S1", known(100))), 1, inYard(api.YdScale)},
		// The piling of a cut: its code is taken, or there is no room.
		{having(cut(5, "S1", 1), split(5, "S1", "S2", known(0)), cut(5, "S2", 1)), 2, inYard(api.YdStack)},
		{having(cut(5, "S1", 1), split(5, "S1", "S2", known(0)), cut(5, "S2", 1433)), 2, law(api.TrHeight)},
		{having(append(sevenSplits(), cut(5, "S2", 1))...), 8, inYard(api.YdRoom)},
		{having(append(sevenSplits(), cut(5, "S2", 1433))...), 8, law(api.TrHeight)},
		{having(append(sevenSplits(), merge(5, "A", "B"), cut(5, "S2", 1))...), 10, api.DeskFault{}},
	} {
		n := len(x.w.Entries)
		y, done, fault, e := desk.Replay(x.w, n)
		if done != x.done || fault != x.fault || e != api.OK {
			t.Error(i, done, fault, e)
		}
		// What has a fault is not made, and nothing of it: also no strip of a cut whose pile has a fault.
		if before, d, f, e := desk.Replay(x.w, done); !sameDesk(before, y) || d != done || f != (api.DeskFault{}) || e != api.OK {
			t.Error(i, before, y, d, f, e)
		}
	}
}

// sevenSplits returns entries after which there are eight stacks.
func sevenSplits() []api.Entry {
	l := []api.Entry{cut(5, "S1", 100)}
	for i := range 7 {
		l = append(l, split(5, "S1", string(rune('A'+i)), known(100)))
	}
	return l
}

// P10.1: after a fault nothing is made, whatever comes.
func TestAfterFault(t *testing.T) {
	w := having(hire(1, 5), sell(2, "S1"), hire(3, 7), cut(4, "S1", 1000), sell(5, "S7"))
	for n := 2; n <= 5; n++ {
		y, done, fault, e := desk.Replay(w, n)
		if done != 1 || fault != (api.DeskFault{Kind: api.DkYard, Detail: int(api.YdStack)}) || e != api.OK || y.Days != 5 || len(y.Yard.Stacks) > 0 || len(y.Forest.Trees[0].Strips) > 0 {
			t.Error(n, y, done, fault, e)
		}
	}
}

// P10.1: the rests are those of the works.
func TestRests(t *testing.T) {
	for i, x := range []struct {
		before, after, done int
	}{{10, 10, 4}, {11, 10, 2}, {10, 11, 3}, {0, 0, 4}} {
		w := exampleWorks()
		w.Before, w.After = x.before, x.after
		if _, done, _, e := desk.Replay(w, 4); done != x.done || e != api.OK {
			t.Error(i, done, e)
		}
	}
}

// P10.1: what was sold is paid by the kilogram, each end rounded down, also if it is more than what is divided.
func TestEarned(t *testing.T) {
	for i, x := range []struct {
		price int
		want  api.Bounds
	}{{0, known(0)}, {1, known(14)}, {3, known(42)}, {7, bounds(98, 100)}, {10000, bounds(140000, 143200)}} {
		w := exampleWorks()
		w.Price = x.price
		if y, _, _, e := desk.Replay(w, 4); y.Earned != x.want || e != api.OK {
			t.Error(i, y.Earned, e)
		}
	}
	if y, done, _, e := desk.Replay(richWorks(), 12); done != 12 || y.Earned != known(1260000000) || e != api.OK {
		t.Error(y.Earned, done, e)
	}
}

// richWorks are works that earn more than what is divided.
func richWorks() api.Works {
	w := api.Works{Year: 300, Price: api.MaxKilo, Weight: api.MaxHeavy, Forest: api.Forest{Law: api.Law{Rest: 1, Factors: [3]int{50, 50, 50}}}}
	for _, code := range []string{"A", "B", "C", "D"} {
		w.Forest.Trees = append(w.Forest.Trees, api.Tree{Code: code, Girth: known(6000), Grows: known(50), Dead: -1})
		w.Entries = append(w.Entries, cut(0, code, api.MaxHeight), boil(0, code, known(0), known(0)), sell(0, code))
	}
	return w
}

// P10.1: what the chapter tells, after each number of entries.
func TestReplayOfAll(t *testing.T) {
	r := rand.New(rand.NewSource(2))
	for range often {
		w := someWorks(r, 1+r.Intn(api.MaxEntries), true, false)
		l := taleOf(w)
		for n := range len(w.Entries) + 1 {
			y, done, fault := l.upTo(n)
			gotY, gotDone, gotFault, e := desk.Replay(w, n)
			if !sameDesk(gotY, y) || gotDone != done || gotFault != fault || e != api.OK {
				t.Fatal(w, n, gotY, gotDone, gotFault, e, y, done, fault)
			}
		}
	}
}

// upToYear returns a tree with those of its strips that were taken up to a year.
func upToYear(x api.Tree, year int) api.Tree {
	x.Strips = slices.DeleteFunc(slices.Clone(x.Strips), func(s api.Strip) bool { return s.Year > year })
	return x
}

// P10.6: each tree that was cut was surely allowed to be cut, no tree's history has a new fault up to the works' year, and each stack leads to trees that were cut.
func TestLawIsKept(t *testing.T) {
	r := rand.New(rand.NewSource(3))
	faults := 0
	for range often {
		w := someWorks(r, 1+r.Intn(api.MaxEntries), false, false)
		y, done, fault, e := desk.Replay(w, len(w.Entries))
		if done != len(w.Entries) || fault != (api.DeskFault{}) || e != api.OK {
			t.Fatal(w, done, fault, e)
		}
		isCut := map[string]int{}
		for _, n := range w.Entries {
			if n.Kind == api.DkCut {
				isCut[n.Tree] = n.N
			}
		}
		for i, before := range w.Forest.Trees {
			height, is := isCut[before.Code]
			strips := slices.Clone(before.Strips)
			if is {
				if v, rule, e := tree.May(w.Forest, i, w.Year, height); v != api.VdAlways || e != api.OK {
					t.Fatal(w, i, v, rule, e)
				}
				strips = append(strips, api.Strip{Year: w.Year, Height: height})
				slices.SortFunc(strips, func(a, b api.Strip) int { return a.Year - b.Year })
			}
			if !slices.Equal(y.Forest.Trees[i].Strips, strips) {
				t.Fatal(w, i, y.Forest.Trees[i])
			}
			was, wasRule, _ := tree.First(api.Forest{Law: w.Forest.Law, Trees: []api.Tree{upToYear(before, w.Year)}}, 0)
			is0, isRule, e := tree.First(api.Forest{Law: w.Forest.Law, Trees: []api.Tree{upToYear(y.Forest.Trees[i], w.Year)}}, 0)
			if is0 != was || isRule != wasRule || e != api.OK {
				t.Fatal(w, i, was, wasRule, is0, isRule, e)
			}
			if was >= 0 {
				faults++
			}
		}
		for _, s := range y.Yard.Stacks {
			if len(s.From) == 0 || !slices.IsSorted(s.From) {
				t.Fatal(w, s)
			}
			for _, n := range s.From {
				if w.Entries[n].Kind != api.DkCut {
					t.Fatal(w, s)
				}
			}
		}
	}
	if faults < often/10 {
		t.Error("too few trees had a fault", faults)
	}
}

// P10.7, P0.4: with single numbers, and nothing scraped or weighed, the bark of all cut trees is in the stacks, in the broth or sold.
func TestNoBarkIsLost(t *testing.T) {
	r := rand.New(rand.NewSource(4))
	sold := 0
	for range often {
		w := someWorks(r, 1+r.Intn(api.MaxEntries), false, true)
		w.Entries = slices.DeleteFunc(w.Entries, func(n api.Entry) bool { return n.Deed.Kind == api.YdScrape || n.Deed.Kind == api.YdWeigh })
		y, done, fault, e := desk.Replay(w, len(w.Entries))
		if done != len(w.Entries) || fault != (api.DeskFault{}) || e != api.OK {
			t.Fatal(w, done, fault, e)
		}
		var all, there api.Bounds
		for _, n := range w.Entries {
			if n.Kind == api.DkCut {
				b := barkOf(w, n)
				all = bounds(all.Min+b.Min, all.Max+b.Max)
			}
		}
		for _, s := range y.Yard.Stacks {
			there = bounds(there.Min+s.Dry.Min, there.Max+s.Dry.Max)
		}
		a := y.Yard.Account
		there = bounds(there.Min+a.Broth.Min+a.SoldDry.Min, there.Max+a.Broth.Max+a.SoldDry.Max)
		if there != all || a.Dust != (api.Bounds{}) {
			t.Fatal(w, y, all)
		}
		if a.Broth.Min > 0 && a.SoldDry.Min > 0 {
			sold++
		}
	}
	if sold < often/10 {
		t.Error("too little was boiled and sold", sold)
	}
}

// P10.1, P0.4: the yard's own sources are the trees to which the stacks lead.
func TestStacksLeadToTrees(t *testing.T) {
	r := rand.New(rand.NewSource(5))
	for range often / 2 {
		w := someWorks(r, 1+r.Intn(api.MaxEntries), false, false)
		y, _, _, _ := desk.Replay(w, len(w.Entries))
		book, _ := bookOf(w, len(w.Entries))
		for _, s := range y.Yard.Stacks {
			codes, e := yard.Sources(book, len(book.Deeds), s.Code)
			var trees []string
			for _, n := range s.From {
				trees = append(trees, w.Entries[n].Tree)
			}
			if !slices.Equal(codes, trees) || e != api.OK {
				t.Fatal(w, s, codes, e)
			}
		}
	}
}

// narrowed returns works of which all is known that was known within bounds: girths, and the numbers of deeds.
func narrowed(r *rand.Rand, w api.Works) api.Works {
	w = copyWorks(w)
	for i := range w.Forest.Trees {
		x := &w.Forest.Trees[i]
		x.Girth, x.Grows = known(within(r, x.Girth)), known(within(r, x.Grows))
	}
	for i := range w.Entries {
		d := &w.Entries[i].Deed
		d.A, d.B = known(within(r, d.A)), known(within(r, d.B))
	}
	return w
}

func isInside(inner, outer api.Bounds) bool { return outer.Min <= inner.Min && inner.Max <= outer.Max }

// P0.2: whatever the girths and the numbers of deeds really are, what is there and what is earned lies within the bounds.
func TestBoundsHold(t *testing.T) {
	r := rand.New(rand.NewSource(21))
	real := 0
	for range 2 * often {
		w := someWorks(r, 1+r.Intn(api.MaxEntries), false, false)
		exact := narrowed(r, w)
		wide, _, _, _ := desk.Replay(w, len(w.Entries))
		y, _, fault, e := desk.Replay(exact, len(w.Entries))
		if fault != (api.DeskFault{}) {
			// No tree is cut against the law, but less can be scraped off than there is, and a scale can say what cannot be.
			if fault.Kind != api.DkYard || fault.Detail != int(api.YdBark) && fault.Detail != int(api.YdScale) {
				t.Fatal(w, exact, fault)
			}
			continue
		}
		real++
		a, b := y.Yard.Account, wide.Yard.Account
		inside := isInside(y.Earned, wide.Earned) && y.Days == wide.Days && len(y.Yard.Stacks) == len(wide.Yard.Stacks) &&
			isInside(a.Vapour, b.Vapour) && isInside(a.Broth, b.Broth) && isInside(a.Dust, b.Dust) && isInside(a.SoldDry, b.SoldDry) && isInside(a.SoldWater, b.SoldWater) && isInside(a.Soaked, b.Soaked)
		for i, s := range y.Yard.Stacks {
			x := wide.Yard.Stacks[i]
			inside = inside && s.Code == x.Code && isInside(s.Dry, x.Dry) && isInside(s.Water, x.Water) && slices.Equal(s.From, x.From)
		}
		if !inside || e != api.OK {
			t.Fatal(w, exact, y, e, wide)
		}
	}
	if real < often/2 {
		t.Error("too few years really can be so", real)
	}
}
