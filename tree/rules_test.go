package tree_test

import (
	"math/rand"
	"testing"

	"sobreiro/api"
	"sobreiro/tree"
)

// P1.2: each rule at its edges, and which one is named.
func TestMay(t *testing.T) {
	strip := func(years ...int) change {
		return func(f *api.Forest, t *api.Tree) { t.Strips = example(years...).Trees[0].Strips }
	}
	wound := func(years ...int) change { return func(f *api.Forest, t *api.Tree) { t.Wounds = years } }
	born := func(low, high int) change { return func(f *api.Forest, t *api.Tree) { t.Born = bounds(low, high) } }
	dead := func(year int) change { return func(f *api.Forest, t *api.Tree) { t.Dead = year } }
	heal := func(years int) change { return func(f *api.Forest, t *api.Tree) { f.Law.Heal = years } }
	girth := func(low, high int) change { return func(f *api.Forest, t *api.Tree) { t.Girth = bounds(low, high) } }
	none := func(factor int) change { return func(f *api.Forest, t *api.Tree) { f.Law.Factors[factor] = 0 } }
	for i, x := range []struct {
		year, height int
		verdict      api.Verdict
		rule         api.Rule
		changes      []change
	}{
		// the chapter's examples
		{38, 1, api.VdNever, api.TrGirth, nil},
		{40, 1380, api.VdUnknown, api.TrGirth, nil},
		{42, 1400, api.VdAlways, api.TrNone, nil},
		{42, 1401, api.VdUnknown, api.TrHeight, nil},
		{42, 1432, api.VdUnknown, api.TrHeight, nil},
		{42, 1433, api.VdNever, api.TrHeight, nil},
		{50, 1, api.VdNever, api.TrRest, []change{strip(42)}},
		// a rule that is surely broken is named before an earlier one that is doubtful
		{40, 1401, api.VdNever, api.TrHeight, nil},
		{38, 1400, api.VdNever, api.TrGirth, []change{born(10, 18)}},
		// of several, the first one is named
		{42, 1433, api.VdNever, api.TrDead, []change{dead(0), born(42, 42), strip(42), wound(42)}},
		{42, 1433, api.VdNever, api.TrAge, []change{born(42, 42), strip(42), wound(42)}},
		{42, 1433, api.VdNever, api.TrRest, []change{strip(43), wound(42)}},
		{42, 1433, api.VdNever, api.TrHeal, []change{wound(42)}},
		{42, 1433, api.VdNever, api.TrGirth, []change{girth(1, 2)}},
		{40, 1390, api.VdUnknown, api.TrAge, []change{born(10, 16)}},
		{40, 1390, api.VdUnknown, api.TrGirth, nil},
		// TrDead
		{42, 1, api.VdNever, api.TrDead, []change{dead(41)}},
		{42, 1, api.VdNever, api.TrDead, []change{dead(42)}},
		{42, 1, api.VdAlways, api.TrNone, []change{dead(43)}},
		// TrAge
		{42, 1, api.VdAlways, api.TrNone, []change{born(17, 17)}},
		{42, 1, api.VdUnknown, api.TrAge, []change{born(17, 18)}},
		{42, 1, api.VdNever, api.TrAge, []change{born(18, 18)}},
		{42, 1, api.VdNever, api.TrAge, []change{born(50, 60)}},
		// TrRest
		{51, 1, api.VdAlways, api.TrNone, []change{strip(42)}},
		{42, 1, api.VdNever, api.TrRest, []change{strip(42)}},
		{42, 1, api.VdNever, api.TrRest, []change{strip(50)}},
		{42, 1, api.VdAlways, api.TrNone, []change{strip(51)}},
		{60, 1, api.VdNever, api.TrRest, []change{strip(42, 61)}},
		{60, 1, api.VdAlways, api.TrNone, []change{strip(42, 51, 69)}},
		// TrHeal
		{42, 1, api.VdAlways, api.TrNone, []change{wound(39)}},
		{42, 1, api.VdNever, api.TrHeal, []change{wound(40)}},
		{42, 1, api.VdNever, api.TrHeal, []change{wound(42)}},
		{42, 1, api.VdAlways, api.TrNone, []change{wound(43)}},
		{42, 1, api.VdNever, api.TrHeal, []change{wound(1, 41, 50)}},
		{42, 1, api.VdAlways, api.TrNone, []change{wound(42), heal(0)}},
		{42, 1, api.VdNever, api.TrHeal, []change{wound(42), heal(1)}},
		{43, 1, api.VdAlways, api.TrNone, []change{wound(42), heal(1)}},
		// TrGirth
		{40, 1, api.VdAlways, api.TrNone, []change{girth(700, 700)}},
		{40, 1, api.VdUnknown, api.TrGirth, []change{girth(699, 700)}},
		{40, 1, api.VdNever, api.TrGirth, []change{girth(699, 699)}},
		{40, 1, api.VdAlways, api.TrNone, []change{girth(1, 1), strip(20)}},
		{40, 1, api.VdNever, api.TrGirth, []change{girth(1, 1), strip(60)}},
		// TrHeight: the factor by the number of strips before
		{40, 1400, api.VdAlways, api.TrNone, []change{girth(700, 700)}},
		{40, 1401, api.VdNever, api.TrHeight, []change{girth(700, 700)}},
		{40, 1750, api.VdAlways, api.TrNone, []change{girth(700, 700), strip(20)}},
		{40, 1751, api.VdNever, api.TrHeight, []change{girth(700, 700), strip(20, 60)}},
		{40, 2100, api.VdAlways, api.TrNone, []change{girth(700, 700), strip(10, 20)}},
		{40, 2101, api.VdNever, api.TrHeight, []change{girth(700, 700), strip(1, 10, 20, 30)}},
		{40, 1, api.VdNever, api.TrHeight, []change{girth(700, 700), none(0)}},
		{40, 1, api.VdNever, api.TrHeight, []change{girth(0, 0), strip(20)}},
		{40, 1, api.VdUnknown, api.TrHeight, []change{girth(0, 1), strip(20)}},
		{40, 1, api.VdUnknown, api.TrHeight, []change{girth(0, 700), strip(20)}},
		{42, 15000, api.VdNever, api.TrHeight, nil},
	} {
		if v, r, e := tree.May(changed(x.changes...), 0, x.year, x.height); v != x.verdict || r != x.rule || e != api.OK {
			t.Error(i, v, r, e)
		}
	}
}

// realGirths returns the girths that a tree can really have in a year, when it grows in each year by any number within the bounds.
func realGirths(t api.Tree, year int) map[int]bool {
	now := map[int]bool{}
	for g := t.Girth.Min; g <= t.Girth.Max; g++ {
		now[g] = true
	}
	sign := 1
	if year < t.Taped {
		sign = -1
	}
	for y := t.Taped; y != year; y += sign {
		after := map[int]bool{}
		for g := range now {
			for d := t.Grows.Min; d <= t.Grows.Max; d++ {
				after[max(0, g+sign*d)] = true
			}
		}
		now = after
	}
	return now
}

// kept says for each rule, from TrDead on, whether it is really kept.
func kept(l api.Law, t api.Tree, born, girth, year, height int) [6]bool {
	k := [6]bool{true, true, true, true, true, true}
	before := 0
	for _, s := range t.Strips {
		if s.Year < year {
			before++
		}
		if s.Year > year-l.Rest && s.Year < year+l.Rest {
			k[2] = false
		}
	}
	for _, w := range t.Wounds {
		if w <= year && w > year-l.Heal {
			k[3] = false
		}
	}
	k[0] = t.Dead < 0 || t.Dead > year
	k[1] = born+l.Age <= year
	k[4] = before > 0 || girth >= l.Girth
	f := l.Factors[2]
	if before < 2 {
		f = l.Factors[before]
	}
	k[5] = height*10 <= girth*f
	return k
}

// tally is of how many real cases a rule, or all of them, are kept and broken.
type tally struct{ kept, broken int }

func (y *tally) add(kept bool) {
	if kept {
		y.kept++
	} else {
		y.broken++
	}
}

// expected returns the verdict and the rule that the tallies of all rules and of each tell.
func expected(all tally, each [6]tally) (api.Verdict, api.Rule) {
	for i, y := range each {
		if y.kept == 0 {
			return api.VdNever, api.TrDead + api.Rule(i)
		}
	}
	for i, y := range each {
		if y.broken > 0 {
			return api.VdUnknown, api.TrDead + api.Rule(i)
		}
	}
	return api.VdAlways, api.TrNone
}

// P0.2, P1.7: bounds and verdicts hold for all that is real, and VdUnknown is said where it is kept and broken.
func TestWhatIsReal(t *testing.T) {
	r := rand.New(rand.NewSource(17))
	seen := map[api.Verdict]int{}
	named := map[api.Rule]int{}
	for range 20000 {
		f, year, height := small(r), r.Intn(smallYear+1), 1+r.Intn(12)
		s := f.Trees[0]
		g, e := tree.Girth(f, 0, year)
		var all tally
		var each [6]tally
		real := realGirths(s, year)
		for girth := range real {
			if e != api.OK || girth < g.Min || girth > g.Max {
				t.Fatal(f, year, girth, g, e)
			}
			for born := s.Born.Min; born <= s.Born.Max; born++ {
				k := kept(f.Law, s, born, girth, year, height)
				all.add(k == [6]bool{true, true, true, true, true, true})
				for i := range each {
					each[i].add(k[i])
				}
			}
		}
		if !real[g.Min] || !real[g.Max] {
			t.Fatal(f, year, g)
		}
		v, rule, e := tree.May(f, 0, year, height)
		if wanted, broken := expected(all, each); v != wanted || rule != broken || e != api.OK {
			t.Fatal(f, year, height, v, rule, e, wanted, broken)
		}
		if v == api.VdAlways && all.broken > 0 || v == api.VdNever && all.kept > 0 || v == api.VdUnknown && (all.kept == 0 || all.broken == 0) {
			t.Fatal(f, year, height, v, all)
		}
		seen[v]++
		named[rule]++
	}
	if len(seen) != 3 || len(named) != 7 || seen[api.VdAlways] < 200 || seen[api.VdUnknown] < 200 {
		t.Error(seen, named)
	}
}

// P1.8: a lower strip is never worse.
func TestLowerIsNeverWorse(t *testing.T) {
	worse := map[api.Verdict]int{api.VdAlways: 0, api.VdUnknown: 1, api.VdNever: 2}
	r := rand.New(rand.NewSource(18))
	for range 3000 {
		f, year := small(r), r.Intn(smallYear+1)
		last := 0
		for h := 1; h <= 30; h++ {
			v, _, _ := tree.May(f, 0, year, h)
			if worse[v] < last {
				t.Fatal(f, year, h)
			}
			last = worse[v]
		}
	}
}

// P1.8: narrower bounds never make a verdict less known.
func TestNarrowerIsNotLessKnown(t *testing.T) {
	r := rand.New(rand.NewSource(19))
	known := 0
	for range 20000 {
		wide := small(r)
		narrow := clone(wide)
		s := &narrow.Trees[0]
		s.Born = within(r, s.Born.Min, s.Born.Max)
		s.Girth = within(r, s.Girth.Min, s.Girth.Max)
		s.Grows = within(r, s.Grows.Min, s.Grows.Max)
		year, height := r.Intn(smallYear+1), 1+r.Intn(12)
		a, _, _ := tree.May(wide, 0, year, height)
		b, _, _ := tree.May(narrow, 0, year, height)
		if a != api.VdUnknown && a != b {
			t.Fatal(wide, narrow, year, height, a, b)
		}
		if a == api.VdUnknown && b != a {
			known++
		}
	}
	if known == 0 {
		t.Error("no verdict became known")
	}
}

// P1.8: strips that were surely allowed, in whatever order they were entered, lie at least Rest years apart.
func TestStripsRest(t *testing.T) {
	r := rand.New(rand.NewSource(20))
	pairs := 0
	for range 300 {
		f := great(r)
		f.Trees[0].Strips = nil
		var taken []int
		for range 200 {
			year := r.Intn(api.MaxYear + 1)
			if v, _, _ := tree.May(f, 0, year, 1); v != api.VdAlways || len(taken) == api.MaxStrips {
				continue
			}
			for _, y := range taken {
				if d := max(y-year, year-y); d < f.Law.Rest {
					t.Fatal(f, year, y)
				}
				pairs++
			}
			taken = append(taken, year)
			f.Trees[0].Strips = entered(f.Trees[0].Strips, year)
		}
	}
	if pairs == 0 {
		t.Error("no tree was stripped twice")
	}
}

// entered returns strips with one more in its place.
func entered(l []api.Strip, year int) []api.Strip {
	var out []api.Strip
	for _, s := range l {
		if s.Year < year {
			out = append(out, s)
		}
	}
	out = append(out, api.Strip{Year: year, Height: 1})
	for _, s := range l {
		if s.Year > year {
			out = append(out, s)
		}
	}
	return out
}
