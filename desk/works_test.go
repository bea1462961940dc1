package desk_test

import (
	"math"
	"math/rand"
	"slices"
	"testing"

	"sobreiro/api"
	"sobreiro/tree"
	"sobreiro/yard"
)

// often is how many years are tried out.
const often = 500

func bounds(low, high int) api.Bounds { return api.Bounds{Min: low, Max: high} }

func known(n int) api.Bounds { return bounds(n, n) }

// outside returns numbers that are not from low to high.
func outside(low, high int) []int {
	return []int{low - 1, high + 1, -1000000007, 1000000007, math.MinInt, math.MaxInt}
}

func cut(day int, tree string, height int) api.Entry {
	return api.Entry{Kind: api.DkCut, Day: day, Tree: tree, N: height}
}

func hire(day, days int) api.Entry { return api.Entry{Kind: api.DkHire, Day: day, N: days} }

func deed(d api.Deed) api.Entry { return api.Entry{Kind: api.DkDeed, Day: d.Day, Deed: d} }

func rest(day int, stack string, part api.Bounds) api.Entry {
	return deed(api.Deed{Kind: api.YdRest, Day: day, Stack: stack, A: part})
}

func boil(day int, stack string, part, soak api.Bounds) api.Entry {
	return deed(api.Deed{Kind: api.YdBoil, Day: day, Stack: stack, A: part, B: soak})
}

func scrape(day int, stack string, mass api.Bounds) api.Entry {
	return deed(api.Deed{Kind: api.YdScrape, Day: day, Stack: stack, A: mass})
}

func split(day int, stack, other string, part api.Bounds) api.Entry {
	return deed(api.Deed{Kind: api.YdSplit, Day: day, Stack: stack, Other: other, A: part})
}

func merge(day int, stack, other string) api.Entry {
	return deed(api.Deed{Kind: api.YdMerge, Day: day, Stack: stack, Other: other})
}

func weigh(day int, stack string, mass api.Bounds) api.Entry {
	return deed(api.Deed{Kind: api.YdWeigh, Day: day, Stack: stack, A: mass})
}

func sell(day int, stack string) api.Entry {
	return deed(api.Deed{Kind: api.YdSell, Day: day, Stack: stack})
}

// exampleTree is the tree of the first chapter's examples.
func exampleTree(code string) api.Tree {
	return api.Tree{Code: code, Born: bounds(10, 14), Taped: 40, Girth: bounds(690, 700), Grows: bounds(5, 8), Dead: -1}
}

// exampleWorks are the works of the chapter's examples.
func exampleWorks() api.Works {
	return api.Works{
		Year: 42, Price: 100, Commons: 100, Wage: 5, Weight: 2, Wet: 300,
		Partners: []api.Partner{{Code: "ANA", Part: 1}, {Code: "RUI", Part: 2}},
		Forest: api.Forest{
			Law:   api.Law{Age: 25, Rest: 9, Girth: 700, Factors: [3]int{20, 25, 30}, Heal: 3},
			Trees: []api.Tree{exampleTree("S1")},
		},
		Entries: []api.Entry{cut(10, "S1", 1000), hire(10, 8), boil(20, "S1", known(0), known(0)), sell(30, "S1")},
	}
}

// changed returns the example's works, changed.
func changed(change func(w *api.Works)) api.Works {
	w := exampleWorks()
	change(&w)
	return w
}

// having returns the example's works with a second tree, S2, and other entries.
func having(entries ...api.Entry) api.Works {
	return changed(func(w *api.Works) {
		w.Forest.Trees = append(w.Forest.Trees, exampleTree("S2"))
		w.Entries = entries
	})
}

func copyTrees(trees []api.Tree) []api.Tree {
	trees = slices.Clone(trees)
	for i := range trees {
		trees[i].Strips, trees[i].Wounds = slices.Clone(trees[i].Strips), slices.Clone(trees[i].Wounds)
	}
	return trees
}

func copyWorks(w api.Works) api.Works {
	w.Partners, w.Forest.Trees, w.Entries = slices.Clone(w.Partners), copyTrees(w.Forest.Trees), slices.Clone(w.Entries)
	return w
}

func sameTree(a, b api.Tree) bool {
	return a.Code == b.Code && a.Born == b.Born && a.Taped == b.Taped && a.Girth == b.Girth && a.Grows == b.Grows && a.Dead == b.Dead &&
		slices.Equal(a.Strips, b.Strips) && slices.Equal(a.Wounds, b.Wounds)
}

func sameForest(a, b api.Forest) bool {
	return a.Law == b.Law && slices.EqualFunc(a.Trees, b.Trees, sameTree)
}

func sameWorks(a, b api.Works) bool {
	return a.Year == b.Year && a.Price == b.Price && a.Commons == b.Commons && a.Wage == b.Wage && a.Before == b.Before && a.After == b.After &&
		a.Weight == b.Weight && a.Wet == b.Wet && slices.Equal(a.Partners, b.Partners) && sameForest(a.Forest, b.Forest) && slices.Equal(a.Entries, b.Entries)
}

func sameStack(a, b api.Stack) bool {
	return a.Code == b.Code && a.Dry == b.Dry && a.Water == b.Water && a.Piled == b.Piled && a.Boiled == b.Boiled && slices.Equal(a.From, b.From)
}

func sameDesk(a, b api.Desk) bool {
	return sameForest(a.Forest, b.Forest) && slices.EqualFunc(a.Yard.Stacks, b.Yard.Stacks, sameStack) && a.Yard.Account == b.Yard.Account && a.Days == b.Days && a.Earned == b.Earned
}

// tale is a year as the chapter tells it: what is there after each of the entries that can be made, and the fault of the next one.
type tale struct {
	after []api.Desk // [n]: after n entries
	fault api.DeskFault
}

func taleOf(w api.Works) (l tale) {
	forest := api.Forest{Law: w.Forest.Law, Trees: copyTrees(w.Forest.Trees)}
	l.after = []api.Desk{{Forest: forest}}
	for n := range w.Entries {
		var next api.Desk
		next, l.fault = told(w, l.after[n], n)
		if l.fault != (api.DeskFault{}) {
			break
		}
		l.after = append(l.after, next)
	}
	return l
}

// upTo returns what Replay has to return for the first n entries.
func (l tale) upTo(n int) (y api.Desk, done int, fault api.DeskFault) {
	if n < len(l.after) {
		return l.after[n], n, api.DeskFault{}
	}
	return l.after[len(l.after)-1], len(l.after) - 1, l.fault
}

// told returns what is there after one more entry, or its fault.
func told(w api.Works, before api.Desk, n int) (api.Desk, api.DeskFault) {
	entry := w.Entries[n]
	after := api.Desk{Forest: api.Forest{Law: before.Forest.Law, Trees: copyTrees(before.Forest.Trees)}, Days: before.Days}
	if entry.Kind == api.DkHire {
		after.Days += entry.N
	}
	if entry.Kind == api.DkCut {
		i := slices.IndexFunc(after.Forest.Trees, func(t api.Tree) bool { return t.Code == entry.Tree })
		if i < 0 {
			return api.Desk{}, api.DeskFault{Kind: api.DkTree}
		}
		strips := after.Forest.Trees[i].Strips
		if len(strips) == 10 {
			return api.Desk{}, api.DeskFault{Kind: api.DkRoom}
		}
		if v, rule, _ := tree.May(before.Forest, i, w.Year, entry.N); v != api.VdAlways {
			return api.Desk{}, api.DeskFault{Kind: api.DkLaw, Detail: int(rule)}
		}
		strips = append(strips, api.Strip{Year: w.Year, Height: entry.N})
		slices.SortFunc(strips, func(a, b api.Strip) int { return a.Year - b.Year })
		after.Forest.Trees[i].Strips = strips
	}
	book, entries := bookOf(w, n+1)
	s, done, fault, _ := yard.Follow(book, len(book.Deeds))
	if fault != api.YdNone {
		if done != len(book.Deeds)-1 {
			panic("an earlier deed has a fault")
		}
		return api.Desk{}, api.DeskFault{Kind: api.DkYard, Detail: int(fault)}
	}
	for _, x := range s.Stacks {
		for k := range x.From {
			x.From[k] = entries[x.From[k]]
		}
	}
	after.Yard = s
	after.Earned = bounds(s.Account.SoldDry.Min*w.Price/1000, s.Account.SoldDry.Max*w.Price/1000)
	return after, api.DeskFault{}
}

// bookOf returns the yard in which the first n entries do their deeds, and the entries of these. Each cut is of a tree that is there.
func bookOf(w api.Works, n int) (y api.Yard, entries []int) {
	y = api.Yard{Before: w.Before, After: w.After}
	for i, entry := range w.Entries[:n] {
		switch entry.Kind {
		case api.DkCut:
			dry := barkOf(w, entry)
			y.Deeds = append(y.Deeds, api.Deed{Kind: api.YdPile, Day: entry.Day, Stack: entry.Tree, A: dry, B: bounds(dry.Min*w.Wet/1000, dry.Max*w.Wet/1000)})
		case api.DkDeed:
			y.Deeds = append(y.Deeds, entry.Deed)
		default:
			continue
		}
		entries = append(entries, i)
	}
	return y, entries
}

// barkOf returns the dry bark of a tree that is cut.
func barkOf(w api.Works, entry api.Entry) api.Bounds {
	i := slices.IndexFunc(w.Forest.Trees, func(t api.Tree) bool { return t.Code == entry.Tree })
	girth, _ := tree.Girth(w.Forest, i, w.Year)
	return bounds(girth.Min*entry.N/100*w.Weight, (girth.Max*entry.N+99)/100*w.Weight)
}

// some returns bounds from low to high, which often are a single number.
func some(r *rand.Rand, low, high int) api.Bounds {
	a, b := low+r.Intn(high-low+1), low+r.Intn(high-low+1)
	if r.Intn(2) == 0 {
		b = a
	}
	return bounds(min(a, b), max(a, b))
}

func within(r *rand.Rand, b api.Bounds) int { return b.Min + r.Intn(b.Max-b.Min+1) }

// someYears returns at most so many years, ascending.
func someYears(r *rand.Rand, most, from, to int) []int {
	var years []int
	for range r.Intn(most + 1) {
		years = append(years, from+r.Intn(to-from+1))
	}
	slices.Sort(years)
	return slices.Compact(years)
}

func someTree(r *rand.Rand, code string, year int) api.Tree {
	t := api.Tree{
		Code: code, Born: some(r, 0, 40), Taped: max(0, year-r.Intn(20)), Girth: some(r, 700, 800), Grows: some(r, 0, 20),
		Dead: []int{-1, -1, -1, -1, -1, year - 1, year, year + 1}[r.Intn(8)],
	}
	if r.Intn(10) == 0 {
		t.Girth = some(r, 0, 6000)
	}
	for _, y := range someYears(r, []int{0, 0, 2, 11}[r.Intn(4)], 0, 300) {
		if len(t.Strips) < 10 {
			t.Strips = append(t.Strips, api.Strip{Year: y, Height: 1 + r.Intn(2000)})
		}
	}
	t.Wounds = someYears(r, r.Intn(3), 0, 300)
	return t
}

// someBare returns works without entries.
func someBare(r *rand.Rand) api.Works {
	w := api.Works{
		Year: 60 + r.Intn(200), Price: r.Intn(300), Commons: r.Intn(1001), Wage: r.Intn(20),
		Before: r.Intn(3), After: r.Intn(3), Weight: 1 + r.Intn(10), Wet: r.Intn(3001),
	}
	for i := range r.Intn(7) {
		w.Partners = append(w.Partners, api.Partner{Code: string(rune('P' + i)), Part: r.Intn([]int{1, 4, 1001}[r.Intn(3)])})
	}
	w.Forest.Law = api.Law{Age: r.Intn(30), Rest: 1 + r.Intn(5), Girth: r.Intn(750), Factors: [3]int{20 + r.Intn(31), 20 + r.Intn(31), r.Intn(51)}, Heal: r.Intn(5)}
	for i := range 1 + r.Intn(20) {
		w.Forest.Trees = append(w.Forest.Trees, someTree(r, string(rune('A'+i)), w.Year))
	}
	return w
}

// someEntry returns an entry of any kind, mostly about stacks that are there, whose deed has single numbers only if they are to be so.
func someEntry(r *rand.Rand, day int, stacks []api.Stack, single bool) api.Entry {
	some := func(high int) api.Bounds {
		if single {
			return known(r.Intn(high + 1))
		}
		return some(r, 0, high)
	}
	code := func() string { return string(rune('A' + r.Intn(22))) }
	there := func() string {
		if len(stacks) == 0 || r.Intn(8) == 0 {
			return code()
		}
		return stacks[r.Intn(len(stacks))].Code
	}
	switch r.Intn(16) {
	case 0, 1, 2, 3, 4:
		return cut(day, code(), 1+r.Intn([]int{20, 1000, 3000}[r.Intn(3)]))
	case 5:
		return hire(day, r.Intn(50))
	case 6:
		return rest(day, there(), some(1000))
	case 7, 8, 9:
		return boil(day, there(), some(100), some(1000))
	case 10:
		return scrape(day, there(), some([]int{2, 5000}[r.Intn(2)]))
	case 11:
		return split(day, there(), code(), some(1000))
	case 12, 13:
		return merge(day, there(), there())
	case 14:
		if len(stacks) == 0 {
			return weigh(day, code(), some(50000))
		}
		x := stacks[r.Intn(len(stacks))]
		mass := within(r, x.Dry) + within(r, x.Water)
		return weigh(day, x.Code, bounds(mass, min(mass+r.Intn(2)*r.Intn(500), api.MaxMass)))
	default:
		return sell(day, there())
	}
}

// rarely says of each fault of how many just one is kept.
var rarely = [...]int{1, 60, 4, 20, 60}

// someWorks returns works with at most so many entries, none of which has a fault, or of which one may have.
func someWorks(r *rand.Rand, most int, faulty, single bool) api.Works {
	w := someBare(r)
	now := taleOf(w).after[0]
	day, fault := 0, api.DeskFault{}
	for range 4 * most {
		if len(w.Entries) == most {
			break
		}
		n := len(w.Entries)
		w.Entries = append(w.Entries, someEntry(r, day, now.Yard.Stacks, single))
		if fault == (api.DeskFault{}) {
			next, f := told(w, now, n)
			switch {
			case f == api.DeskFault{}:
				now = next
			case faulty && r.Intn(rarely[f.Kind]) == 0:
				fault = f
			default:
				w.Entries = w.Entries[:n]
				day = min(day+r.Intn(2), api.MaxYardDay)
			}
		}
	}
	return w
}

// The works that are tried out are valid, and many things happen in them.
func TestSomeWorks(t *testing.T) {
	r := rand.New(rand.NewSource(1))
	kinds, faults := map[api.DeedKind]int{}, map[api.DeskFaultKind]int{}
	cuts, late := 0, 0
	for range often {
		w := someWorks(r, 1+r.Intn(api.MaxEntries), true, false)
		l := taleOf(w)
		last, done, fault := l.upTo(len(w.Entries))
		faults[fault.Kind]++
		for _, n := range w.Entries[:done] {
			kinds[n.Deed.Kind]++
			if n.Kind == api.DkCut {
				cuts++
			}
		}
		for _, x := range last.Forest.Trees {
			if i := slices.IndexFunc(x.Strips, func(s api.Strip) bool { return s.Year == w.Year }); i >= 0 && i+1 < len(x.Strips) {
				late++
			}
		}
	}
	for kind := api.YdRest; kind <= api.YdSell; kind++ {
		if kinds[kind] < often/8 {
			t.Error("too few deeds of a kind", kind, kinds)
		}
	}
	for kind := range api.DkYard + 1 {
		if faults[kind] < often/50 {
			t.Error("too few faults of a kind", kind, faults)
		}
	}
	if cuts < often || late < often/20 {
		t.Error("too few cuts", cuts, late)
	}
}
