package press_test

import (
	"math/rand"
	"testing"

	"sobreiro/api"
	"sobreiro/press"
)

// exampleAssembly is the assembly of the chapter's example.
func exampleAssembly() api.Assembly {
	return api.Assembly{Body: bounds(4000, 4100), Disc: bounds(600, 620), Glue: bounds(5, 10), Discs: 2, Target: bounds(5000, 5050)}
}

// built is what Build says of a valid assembly.
type built struct {
	length, off api.Bounds
	verdict     api.Verdict
}

func buildOf(t *testing.T, a api.Assembly) built {
	t.Helper()
	length, off, v, e := press.Build(a)
	if e != api.OK {
		t.Fatal(a, e)
	}
	return built{length, off, v}
}

// P8.4: the chapter's example, and targets at the edges.
func TestBuild(t *testing.T) {
	long := bounds(5210, 5360)
	for i, x := range []struct {
		change func(a *api.Assembly)
		want   built
	}{
		{func(a *api.Assembly) {}, built{long, bounds(160, 360), api.VdAlways}},
		{func(a *api.Assembly) { a.Target = bounds(5210, 5300) }, built{long, bounds(0, 150), api.VdAlways}},
		{func(a *api.Assembly) { a.Target = bounds(5211, 5300) }, built{long, bounds(0, 149), api.VdUnknown}},
		{func(a *api.Assembly) { a.Target = bounds(5360, 5400) }, built{long, bounds(0, 0), api.VdUnknown}},
		{func(a *api.Assembly) { a.Target = bounds(5361, 5400) }, built{long, bounds(0, 0), api.VdNever}},
		{func(a *api.Assembly) { a.Target = bounds(8000, 8000) }, built{long, bounds(0, 0), api.VdNever}},
		{func(a *api.Assembly) { a.Target = bounds(5210, 5210) }, built{long, bounds(0, 150), api.VdAlways}},
		{func(a *api.Assembly) { a.Target = bounds(5000, 5209) }, built{long, bounds(1, 360), api.VdAlways}},
		{func(a *api.Assembly) { a.Target = bounds(5000, 5500) }, built{long, bounds(0, 360), api.VdAlways}},
		{func(a *api.Assembly) { a.Target = bounds(0, 0) }, built{long, long, api.VdAlways}},
		{func(a *api.Assembly) { a.Target = bounds(0, 8000) }, built{long, bounds(0, 5360), api.VdAlways}},
		{func(a *api.Assembly) { a.Discs = 0 }, built{bounds(4000, 4100), bounds(0, 0), api.VdNever}},
		{func(a *api.Assembly) { a.Discs = 1 }, built{bounds(4605, 4730), bounds(0, 0), api.VdNever}},
		{func(a *api.Assembly) { a.Discs = 10 }, built{bounds(10050, 10400), bounds(5000, 5400), api.VdAlways}},
		{func(a *api.Assembly) { a.Discs, a.Target = 1, bounds(4700, 4710) }, built{bounds(4605, 4730), bounds(0, 30), api.VdUnknown}},
		{func(a *api.Assembly) { *a = api.Assembly{} }, built{verdict: api.VdAlways}},
		{func(a *api.Assembly) { *a = api.Assembly{Target: known(1)} }, built{verdict: api.VdNever}},
		{func(a *api.Assembly) { *a = api.Assembly{Discs: 10, Target: bounds(1, 2)} }, built{verdict: api.VdNever}},
		{func(a *api.Assembly) { *a = api.Assembly{Disc: bounds(0, 1), Discs: 3, Target: bounds(1, 2)} }, built{bounds(0, 3), bounds(0, 2), api.VdUnknown}},
		{func(a *api.Assembly) { *a = api.Assembly{Glue: bounds(1, 2), Discs: 3, Target: bounds(1, 2)} }, built{bounds(3, 6), bounds(1, 5), api.VdAlways}},
		{func(a *api.Assembly) {
			*a = api.Assembly{Body: known(8000), Disc: known(8000), Glue: known(8000), Discs: 10}
		}, built{known(168000), known(168000), api.VdAlways}},
	} {
		a := exampleAssembly()
		x.change(&a)
		if b := buildOf(t, a); b != x.want {
			t.Error(i, b)
		}
	}
}

// someAssembly returns an assembly whose target is often near its length.
func someAssembly(r *rand.Rand, most, spread int) api.Assembly {
	some := func() api.Bounds { return around(r, r.Intn(most+1), spread, 0, api.MaxLength) }
	a := api.Assembly{Body: some(), Disc: some(), Glue: some(), Discs: r.Intn(4)}
	a.Target = around(r, held(within(r, a.Body)+r.Intn(4)*(within(r, a.Disc)+within(r, a.Glue)), 0, api.MaxLength), 2*spread, 0, api.MaxLength)
	return a
}

// realLengths returns how many ways there are to have each length, every disc and every joint by itself.
func realLengths(a api.Assembly) map[int]bool {
	lengths := map[int]bool{}
	for body := a.Body.Min; body <= a.Body.Max; body++ {
		lengths[body] = true
	}
	for range a.Discs {
		longer := map[int]bool{}
		for length := range lengths {
			for disc := a.Disc.Min; disc <= a.Disc.Max; disc++ {
				for glue := a.Glue.Min; glue <= a.Glue.Max; glue++ {
					longer[length+disc+glue] = true
				}
			}
		}
		lengths = longer
	}
	return lengths
}

// P8.4, P8.8, P0.2: all real lengths of small assemblies, and all that can be sanded off them.
func TestBuildCounted(t *testing.T) {
	r := rand.New(rand.NewSource(12))
	times := map[api.Verdict]int{}
	for range 2 * often {
		a := someAssembly(r, 30, 3)
		got := buildOf(t, a)
		want := built{length: bounds(1<<30, -1)}
		reach, fail := 0, 0
		for length := range realLengths(a) {
			want.length = bounds(min(want.length.Min, length), max(want.length.Max, length))
			if length < a.Target.Min {
				fail++
				continue
			}
			reach++
			for left := a.Target.Min; left <= min(length, a.Target.Max); left++ {
				if !isIn(length-left, got.off) {
					t.Fatal(a, got, length, left)
				}
			}
		}
		switch {
		case fail == 0:
			want.verdict = api.VdAlways
		case reach == 0:
			want.verdict = api.VdNever
		}
		if want.verdict != api.VdNever {
			want.off = bounds(max(0, want.length.Min-a.Target.Max), max(0, want.length.Max-a.Target.Min))
		}
		if got != want {
			t.Fatal(a, got, want)
		}
		times[got.verdict]++
	}
	if len(times) != 3 || min(times[api.VdAlways], times[api.VdNever], times[api.VdUnknown]) < often/10 {
		t.Error("too few", times)
	}
}

// P8.8, P0.2: with VdAlways what is left of any real length can lie in the target, with VdNever of none.
func TestBuildIsTrue(t *testing.T) {
	r := rand.New(rand.NewSource(13))
	for range 2 * often {
		a := someAssembly(r, 2000, 300)
		a.Discs = r.Intn(api.MaxDiscs + 1)
		b := buildOf(t, a)
		for range 20 {
			length := within(r, a.Body)
			for range a.Discs {
				length += within(r, a.Disc) + within(r, a.Glue)
			}
			if !isIn(length, b.length) {
				t.Fatal(a, b, length)
			}
			// Of what may be sanded off, the most that is needed and the least that is not too much.
			off := held(length-a.Target.Max, b.off.Min, b.off.Max)
			canLie := off <= length && isIn(length-off, a.Target)
			if b.verdict == api.VdAlways && !canLie || b.verdict == api.VdNever && canLie {
				t.Fatal(a, b, length, off)
			}
		}
	}
}

// P8.8: narrower bounds never make the verdict of an assembly less known, and a wider target never makes it worse.
func TestBuildNarrowed(t *testing.T) {
	r := rand.New(rand.NewSource(14))
	for range 2 * often {
		a := someAssembly(r, 2000, 300)
		n := a
		n.Body, n.Disc, n.Glue = narrower(r, a.Body), narrower(r, a.Disc), narrower(r, a.Glue)
		before, after := buildOf(t, a), buildOf(t, n)
		if before.verdict != api.VdUnknown && after.verdict != before.verdict || after.length.Min < before.length.Min || after.length.Max > before.length.Max || after.off.Min < before.off.Min || after.off.Max > before.off.Max {
			t.Fatal(a, n, before, after)
		}
		wide := a
		wide.Target = bounds(held(a.Target.Min-r.Intn(300), 0, api.MaxLength), held(a.Target.Max+r.Intn(300), 0, api.MaxLength))
		if after := buildOf(t, wide); rank(after.verdict) < rank(before.verdict) {
			t.Fatal(a, wide, before, after)
		}
	}
}

// fewestOf returns what Fewest says of a valid assembly, -1 if there are none.
func fewestOf(t *testing.T, a api.Assembly) int {
	t.Helper()
	discs, found, e := press.Fewest(a)
	if e != api.OK || !found && discs != 0 {
		t.Fatal(a, discs, found, e)
	}
	if !found {
		return -1
	}
	return discs
}

// P8.4: the chapter's example, and what is not enough.
func TestFewest(t *testing.T) {
	for i, x := range []struct {
		change func(a *api.Assembly)
		want   int
	}{
		{func(a *api.Assembly) {}, 2},
		{func(a *api.Assembly) { a.Discs = 0 }, 2},
		{func(a *api.Assembly) { a.Discs = 10 }, 2},
		{func(a *api.Assembly) { a.Target = bounds(5210, 5210) }, 2},
		{func(a *api.Assembly) { a.Target = bounds(5211, 5300) }, 3},
		{func(a *api.Assembly) { a.Target = bounds(4605, 4605) }, 1},
		{func(a *api.Assembly) { a.Target = bounds(4606, 4700) }, 2},
		{func(a *api.Assembly) { a.Target = bounds(4000, 4050) }, 0},
		{func(a *api.Assembly) { a.Target = bounds(4001, 4050) }, 1},
		{func(a *api.Assembly) { a.Target = bounds(0, 0) }, 0},
		{func(a *api.Assembly) { a.Body, a.Target = bounds(0, 4000), bounds(6050, 6050) }, 10},
		{func(a *api.Assembly) { a.Body, a.Target = bounds(0, 4000), bounds(6051, 6051) }, -1},
		{func(a *api.Assembly) { *a = api.Assembly{Target: known(1)} }, -1},
		{func(a *api.Assembly) {
			*a = api.Assembly{Disc: bounds(0, 8000), Glue: bounds(0, 8000), Target: known(1)}
		}, -1},
		{func(a *api.Assembly) { *a = api.Assembly{Glue: known(1), Target: known(10)} }, 10},
		{func(a *api.Assembly) { *a = api.Assembly{Disc: known(1), Target: known(11)} }, -1},
		{func(a *api.Assembly) { *a = api.Assembly{} }, 0},
	} {
		a := exampleAssembly()
		x.change(&a)
		if discs := fewestOf(t, a); discs != x.want {
			t.Error(i, discs)
		}
	}
}

// P8.4, P0.3: no fewer discs are always enough.
func TestFewestOfAll(t *testing.T) {
	r := rand.New(rand.NewSource(15))
	times := map[int]int{}
	for range 2 * often {
		a := someAssembly(r, 900, 100)
		want := -1
		for discs := api.MaxDiscs; discs >= 0; discs-- {
			shortest := a.Body.Min + discs*(a.Disc.Min+a.Glue.Min)
			if shortest >= a.Target.Min {
				want = discs
			}
		}
		got := fewestOf(t, a)
		if got != want {
			t.Fatal(a, got, want)
		}
		times[got]++
		for discs := range api.MaxDiscs + 1 {
			a.Discs = discs
			if fewestOf(t, a) != got || got >= 0 && (buildOf(t, a).verdict == api.VdAlways) != (discs >= got) {
				t.Fatal(a, got)
			}
		}
	}
	if min(times[0], times[1], times[2]) < often/10 {
		t.Error("too few", times)
	}
}
