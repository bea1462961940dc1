package press_test

import (
	"math/rand"
	"testing"

	"sobreiro/api"
	"sobreiro/press"
)

// sealOf returns what Seal says of a valid question.
func sealOf(t *testing.T, q question) told {
	t.Helper()
	v, rule, e := press.Seal(q.p, q.c, q.n)
	if e != api.OK {
		t.Fatal(q, e)
	}
	return told{v, rule}
}

// P8.1: the chapter's examples, and each rule at its edge.
func TestSeal(t *testing.T) {
	for i, x := range []struct {
		change func(q *question)
		want   told
	}{
		{func(q *question) {}, told{api.VdAlways, api.PsNone}},
		{func(q *question) { q.c.Density.Max = 210 }, told{api.VdAlways, api.PsNone}},
		{func(q *question) { q.n.Bore = bounds(2100, 2150) }, told{api.VdUnknown, api.PsLoose}},
		{func(q *question) { q.n.Bore = bounds(2230, 2300) }, told{api.VdNever, api.PsLoose}},
		{func(q *question) { q.p.Crush = 660 }, told{api.VdUnknown, api.PsCrush}},
		{func(q *question) { q.p.Limit = 600 }, told{api.VdUnknown, api.PsBreath}},
		// 2450 * 653 = 1599850, 2450 * 654 = 1602300; 2400 * 666 = 1598400, 2400 * 667 = 1600800
		{func(q *question) { q.p.Crush = 653 }, told{api.VdAlways, api.PsNone}},
		{func(q *question) { q.p.Crush = 654 }, told{api.VdUnknown, api.PsCrush}},
		{func(q *question) { q.p.Crush = 666 }, told{api.VdUnknown, api.PsCrush}},
		{func(q *question) { q.p.Crush = 667 }, told{api.VdNever, api.PsCrush}},
		{func(q *question) { q.p.Crush, q.c.Width = 640, bounds(2400, 2500) }, told{api.VdAlways, api.PsNone}}, // 2500 * 640 = 1600 * 1000
		// 2160 and 2327 are the widths that it springs back to at least and at most.
		{func(q *question) { q.n.Bore = bounds(1850, 2060) }, told{api.VdAlways, api.PsNone}},
		{func(q *question) { q.n.Bore = bounds(1850, 2061) }, told{api.VdUnknown, api.PsLoose}},
		{func(q *question) { q.n.Bore = bounds(2227, 2300) }, told{api.VdUnknown, api.PsLoose}},
		{func(q *question) { q.n.Bore = bounds(2228, 2300) }, told{api.VdNever, api.PsLoose}},
		{func(q *question) { q.p.Grip = 260 }, told{api.VdAlways, api.PsNone}},
		{func(q *question) { q.p.Grip = 261 }, told{api.VdUnknown, api.PsLoose}},
		{func(q *question) { q.p.Grip = 477 }, told{api.VdUnknown, api.PsLoose}},
		{func(q *question) { q.p.Grip = 478 }, told{api.VdNever, api.PsLoose}},
		{func(q *question) { q.p.Grip = 4000 }, told{api.VdNever, api.PsLoose}},
		// The length
		{func(q *question) { q.n.Depth = 4500 }, told{api.VdAlways, api.PsNone}},
		{func(q *question) { q.n.Depth = 4499 }, told{api.VdUnknown, api.PsLong}},
		{func(q *question) { q.n.Depth = 4400 }, told{api.VdUnknown, api.PsLong}},
		{func(q *question) { q.n.Depth = 4399 }, told{api.VdNever, api.PsLong}},
		{func(q *question) { q.n.Depth = 0 }, told{api.VdNever, api.PsLong}},
		// 3000 * 1000 / 4400 is 681 and a part, 2000 * 1000 / 4500 is 444 and a part.
		{func(q *question) { q.p.Limit = 682 }, told{api.VdAlways, api.PsNone}},
		{func(q *question) { q.p.Limit = 681 }, told{api.VdUnknown, api.PsBreath}},
		{func(q *question) { q.p.Limit = 445 }, told{api.VdUnknown, api.PsBreath}},
		{func(q *question) { q.p.Limit = 444 }, told{api.VdNever, api.PsBreath}},
		{func(q *question) { q.p.Limit = 0 }, told{api.VdNever, api.PsBreath}},
		{func(q *question) { q.p.Limit, q.p.Steps[0].Breathes = 0, known(0) }, told{api.VdAlways, api.PsNone}},
		{func(q *question) { q.p.Limit, q.p.Steps[0].Breathes = 10, known(44) }, told{api.VdAlways, api.PsNone}}, // 44000 / 4400 = 10
		{func(q *question) { q.p.Limit, q.p.Steps[0].Breathes = 10, known(45) }, told{api.VdUnknown, api.PsBreath}},
		{func(q *question) { q.p.Limit, q.p.Steps[0].Breathes = 10, known(46) }, told{api.VdNever, api.PsBreath}},
		// The rule is the first one that is not surely kept, whichever it is that never is.
		{func(q *question) { q.p.Crush, q.n.Depth = 654, 0 }, told{api.VdNever, api.PsCrush}},
		{func(q *question) { q.p.Grip, q.p.Limit = 261, 0 }, told{api.VdNever, api.PsLoose}},
		{func(q *question) { q.n.Depth, q.p.Limit = 4499, 0 }, told{api.VdNever, api.PsLong}},
		{func(q *question) { q.p.Crush, q.p.Grip, q.n.Depth, q.p.Limit = 667, 478, 0, 0 }, told{api.VdNever, api.PsCrush}},
	} {
		if s := sealOf(t, changed(x.change)); s != x.want {
			t.Error(i, s)
		}
	}
}

// P8.1: rules that can each be kept, but not together.
func TestSealTogether(t *testing.T) {
	for i, x := range []struct {
		change func(q *question)
		want   told
	}{
		// Of at most 2402 it is not crushed (666 * 2402 = 1599732), and 2402 * 950 / 1000 = 2281.
		{func(q *question) { q.p.Crush, q.n.Bore = 666, bounds(2181, 2182) }, told{api.VdUnknown, api.PsCrush}},
		{func(q *question) { q.p.Crush, q.n.Bore = 666, bounds(2182, 2183) }, told{api.VdNever, api.PsCrush}},
		// Not longer than 4400, it lets pass at least 2000 * 1000 / 4400 = 454 and a part.
		{func(q *question) { q.n.Depth, q.p.Limit = 4400, 455 }, told{api.VdUnknown, api.PsLong}},
		{func(q *question) { q.n.Depth, q.p.Limit = 4400, 454 }, told{api.VdNever, api.PsLong}},
		{func(q *question) { q.n.Depth, q.p.Limit = 4450, 449 }, told{api.VdNever, api.PsLong}},
		{func(q *question) { q.n.Depth, q.p.Limit = 4450, 450 }, told{api.VdUnknown, api.PsLong}},
	} {
		if s := sealOf(t, changed(x.change)); s != x.want {
			t.Error(i, s)
		}
	}
}

// P8.1: the steps to which a density can belong, and what they say together.
func TestSealSteps(t *testing.T) {
	always := api.Step{Springs: known(1000), Breathes: known(0)}
	loose := api.Step{Springs: known(0), Breathes: known(0)}
	open := api.Step{Springs: known(1000), Breathes: known(100000)}
	either := api.Step{Springs: bounds(0, 1000), Breathes: known(0)}
	for i, x := range []struct {
		density api.Bounds
		want    told
		steps   []api.Step // from 0, 10, 20 and so on
	}{
		{bounds(0, 9), told{api.VdAlways, api.PsNone}, []api.Step{always, loose}},
		{bounds(0, 10), told{api.VdUnknown, api.PsLoose}, []api.Step{always, loose}},
		{bounds(9, 10), told{api.VdUnknown, api.PsLoose}, []api.Step{always, loose}},
		{bounds(10, 10), told{api.VdNever, api.PsLoose}, []api.Step{always, loose}},
		{bounds(10, 1000), told{api.VdNever, api.PsLoose}, []api.Step{always, loose}},
		{bounds(9, 9), told{api.VdAlways, api.PsNone}, []api.Step{always, loose}},
		{bounds(0, 1000), told{api.VdAlways, api.PsNone}, []api.Step{always, always, always}},
		{bounds(0, 1000), told{api.VdNever, api.PsLoose}, []api.Step{loose, open, loose}},
		{bounds(10, 1000), told{api.VdNever, api.PsBreath}, []api.Step{loose, open, loose}},
		{bounds(20, 1000), told{api.VdNever, api.PsLoose}, []api.Step{loose, open, loose}},
		{bounds(0, 1000), told{api.VdUnknown, api.PsLoose}, []api.Step{always, loose, open}},
		{bounds(0, 1000), told{api.VdUnknown, api.PsBreath}, []api.Step{always, open, loose}},
		{bounds(0, 19), told{api.VdUnknown, api.PsBreath}, []api.Step{open, always, loose}},
		{bounds(0, 19), told{api.VdUnknown, api.PsLoose}, []api.Step{either, open}},
		{bounds(0, 19), told{api.VdUnknown, api.PsBreath}, []api.Step{open, either}},
		{bounds(10, 19), told{api.VdUnknown, api.PsLoose}, []api.Step{open, either}},
		{bounds(15, 25), told{api.VdAlways, api.PsNone}, []api.Step{loose, always, always, open}},
		{bounds(15, 30), told{api.VdUnknown, api.PsBreath}, []api.Step{loose, always, always, open}},
		{bounds(50, 1000), told{api.VdNever, api.PsBreath}, []api.Step{always, always, always, always, always, open}},
		{bounds(0, 49), told{api.VdAlways, api.PsNone}, []api.Step{always, always, always, always, always, open}},
	} {
		for n := range x.steps {
			x.steps[n].From = 10 * n
		}
		q := changed(func(q *question) { q.p.Steps, q.c.Density = x.steps, x.density })
		if s := sealOf(t, q); s != x.want {
			t.Error(i, s)
		}
	}
}

// P8.1, P8.6, P0.2: verdicts and rules of small bounds, counted out over all that can be.
func TestSealCounted(t *testing.T) {
	r := rand.New(rand.NewSource(1))
	times := map[told]int{}
	for range 4 * often {
		q := someSmall(r)
		got, want := sealOf(t, q), q.join(q.tellStep)
		if got != want {
			t.Fatal(q, got, want)
		}
		if other := q.join(q.reckonStep); other != want {
			t.Fatal("the other reckoning", q, other, want)
		}
		times[got]++
	}
	for _, v := range []api.Verdict{api.VdUnknown, api.VdNever} {
		for _, rule := range ruleNames() {
			if times[told{v, rule}] < often/40 {
				t.Error("too few", v, rule, times)
			}
		}
	}
	if times[told{api.VdAlways, api.PsNone}] < often/4 {
		t.Error("too few", times)
	}
}

// P8.1: verdicts and rules of great bounds.
func TestSealGreat(t *testing.T) {
	r := rand.New(rand.NewSource(2))
	times := map[api.Verdict]int{}
	for range 10 * often {
		q := someGreat(r)
		got, want := sealOf(t, q), q.join(q.reckonStep)
		if got != want {
			t.Fatal(q, got, want)
		}
		times[got.verdict]++
	}
	if len(times) != 3 || min(times[api.VdAlways], times[api.VdNever], times[api.VdUnknown]) < often/10 {
		t.Error("too few", times)
	}
}

// P8.6, P0.2: what is really so with great bounds.
func TestSealIsTrue(t *testing.T) {
	r := rand.New(rand.NewSource(3))
	for range 2 * often {
		q := someGreat(r)
		s := sealOf(t, q)
		for range 50 {
			x := q.someReal(r)
			if is := q.seals(x); s.verdict == api.VdAlways && !is || s.verdict == api.VdNever && is {
				t.Fatal(q, s, x)
			}
		}
	}
}

// P8.6: with VdUnknown some corks that can be seal, and some do not.
func TestSealUnknown(t *testing.T) {
	r := rand.New(rand.NewSource(4))
	for range 2 * often {
		q := someSmall(r)
		if sealOf(t, q).verdict != api.VdUnknown {
			continue
		}
		some, others := 0, 0
		for density := q.c.Density.Min; density <= q.c.Density.Max; density++ {
			for x := range q.everyReal(density) {
				if q.seals(x) {
					some++
				} else {
					others++
				}
			}
		}
		if some == 0 || others == 0 {
			t.Fatal(q, some, others)
		}
	}
}

// rank is how good a verdict is.
func rank(v api.Verdict) int {
	return map[api.Verdict]int{api.VdNever: 0, api.VdUnknown: 1, api.VdAlways: 2}[v]
}

// P8.8: a narrower bore, a deeper neck and a higher limit never make a verdict worse.
func TestSealEased(t *testing.T) {
	r := rand.New(rand.NewSource(5))
	better := 0
	for i := range 6 * often {
		q := someSmall(r)
		if i%2 == 0 {
			q = someGreat(r)
		}
		eased := q.copy()
		for range 1 + r.Intn(2) {
			switch r.Intn(3) {
			case 0:
				eased.n.Bore.Max = max(0, eased.n.Bore.Max-r.Intn(5))
				eased.n.Bore.Min = min(eased.n.Bore.Max, max(0, eased.n.Bore.Min-r.Intn(5)))
			case 1:
				eased.n.Depth = near(r, eased.n.Depth+3, 3, 0, api.MaxLength)
			default:
				eased.p.Limit = near(r, eased.p.Limit+3, 3, 0, api.MaxOxygen)
			}
		}
		before, after := rank(sealOf(t, q).verdict), rank(sealOf(t, eased).verdict)
		if after < before {
			t.Fatal(q, eased, before, after)
		}
		if after > before {
			better++
		}
	}
	if better < often/10 {
		t.Error("too few got better", better)
	}
}

// narrower returns bounds that lie within others.
func narrower(r *rand.Rand, b api.Bounds) api.Bounds {
	x, y := within(r, b), within(r, b)
	return bounds(min(x, y), max(x, y))
}

// P8.8: narrower bounds never make a verdict less known.
func TestSealNarrowed(t *testing.T) {
	r := rand.New(rand.NewSource(6))
	moreKnown := 0
	for i := range 6 * often {
		q := someSmall(r)
		if i%2 == 0 {
			q = someGreat(r)
		}
		n := q.copy()
		step := &n.p.Steps[r.Intn(len(n.p.Steps))]
		for _, b := range []*api.Bounds{&n.c.Width, &n.c.Length, &n.c.Density, &n.n.Bore, &step.Springs, &step.Breathes} {
			if r.Intn(3) == 0 {
				*b = narrower(r, *b)
			}
		}
		before, after := sealOf(t, q).verdict, sealOf(t, n).verdict
		if before != api.VdUnknown && after != before {
			t.Fatal(q, n, before, after)
		}
		if before == api.VdUnknown && after != before {
			moreKnown++
		}
	}
	if moreKnown < often/10 {
		t.Error("too few got known", moreKnown)
	}
}
