package ring_test

import (
	"math/rand"
	"slices"
	"testing"

	"sobreiro/api"
	"sobreiro/ring"
)

// P2.7: with fewer kinds and fewer numbers of dry years bounds never widen.
func TestNarrowerClimates(t *testing.T) {
	r := rand.New(rand.NewSource(9))
	for range often {
		s, c, from, before := someSite(r), someClimate(r, 9), within(r, 0, 50), r.Intn(5)
		noWider(t, s, c, narrower(r, c), from, before)
	}
}

// P2.7: with more measured rings bounds never widen, and a cut of a cut changes nothing.
func TestMoreRings(t *testing.T) {
	r := rand.New(rand.NewSource(10))
	for range often {
		s, c, from, before := someSite(r), someClimate(r, 9), within(r, 0, 50), r.Intn(5)
		measured := someRings(r, s, len(c.Years))
		all, n, e := ring.Cut(s, c, before, measured)
		if e != api.OK {
			continue
		}
		some, _, e := ring.Cut(s, c, before, measured[:r.Intn(len(measured)+1)])
		if e != api.OK {
			t.Fatal(s, c, before, measured, e)
		}
		noWider(t, s, c, some, from, before)
		noWider(t, s, some, all, from, before)
		if again, m, e := ring.Cut(s, all, before, measured); !sameClimate(again, all) || m != n || e != api.OK {
			t.Fatal(s, c, before, measured, again, m, e)
		}
	}
}

// noWider checks that what is known of a narrow climate is not less than what is known of a wide one.
func noWider(t *testing.T, s api.Site, wide, narrow api.Climate, from api.Bounds, before int) {
	t.Helper()
	inner, e := ring.Thick(s, narrow, from, before)
	if e == api.ErrAgainst {
		return
	}
	outer, f := ring.Thick(s, wide, from, before)
	if e != api.OK || f != api.OK {
		t.Fatal(s, wide, narrow, from, before, e, f)
	}
	for i := range inner {
		if inner[i].Min < outer[i].Min || outer[i].Max < inner[i].Max {
			t.Fatal(s, wide, narrow, from, before, inner, outer)
		}
	}
	some, _, _ := ring.Kinds(narrow)
	all, _, _ := ring.Kinds(wide)
	for i := range some {
		for k := range some[i] {
			if some[i][k] && !all[i][k] {
				t.Fatal(wide, narrow, all, some)
			}
		}
	}
	_, more, _ := ring.Worst(s, narrow, before)
	if _, least, _ := ring.Worst(s, wide, before); more < least {
		t.Fatal(s, wide, narrow, before, more, least)
	}
}

// R3: nil and empty slices are the same value. R4: no argument is changed, and no result shares memory with one.
func TestArgumentsAreKept(t *testing.T) {
	s, c := exampleSite(), exampleClimate()
	measured := rings(bounds(300, 310), bounds(0, 9000))
	limits := []int{1, 2}
	ask := func() (o api.Climate, l []api.Kinds) {
		ring.CheckSite(s)
		ring.CheckClimate(c)
		ring.Thick(s, c, bounds(0, 0), 0)
		ring.Worst(s, c, 0)
		ring.Reach(s, c, bounds(0, 0), 0, 5)
		ring.Match(s, c, measured)
		ring.Match(s, c, measured[:1])
		ring.Class(limits, bounds(0, 2))
		ring.Print(s, c)
		o, _, _ = ring.Cut(s, c, 0, measured)
		l, _, _ = ring.Kinds(c)
		return o, l
	}
	o, l := ask()
	kept := func() bool {
		return sameSite(s, exampleSite()) && sameClimate(c, exampleClimate()) &&
			slices.Equal(measured, rings(bounds(300, 310), bounds(0, 9000))) && slices.Equal(limits, []int{1, 2})
	}
	if !kept() {
		t.Error(s, c, measured, limits)
	}
	clear(o.Years)
	clear(l)
	whole, _, _ := ring.Cut(s, c, 0, nil)
	clear(whole.Years)
	if !kept() {
		t.Error(s, c, measured, limits)
	}
	if again, m := ask(); !slices.Equal(again.Years, years("W", "DM", "DM")) || !slices.Equal(m, years("MW", "DMW", "DM")) {
		t.Error(again, m)
	}
}

// P0.1: whatever is asked, there is an answer, and no other result with an error.
func TestAnyArguments(t *testing.T) {
	r := rand.New(rand.NewSource(11))
	for range often {
		x := exampleCall()
		for _, l := range slices.Concat(siteChecks(), climateChecks(), []check{startCheck(), targetCheck()}, measuredChecks(), []check{againstCheck()}) {
			if r.Intn(6) == 0 {
				l.flaws[r.Intn(len(l.flaws))](&x)
			}
		}
		if l, e := ring.Thick(x.s, x.c, x.from, x.rings); e != api.OK && l != nil || e == api.OK && len(l) != len(x.c.Years) {
			t.Fatal(x, l, e)
		}
		if l, n, e := ring.Worst(x.s, x.c, x.rings); e != api.OK && (l != nil || n != 0) || e == api.OK && len(l) != len(x.c.Years) {
			t.Fatal(x, l, n, e)
		}
		if a, b, e := ring.Reach(x.s, x.c, x.from, x.rings, x.target); e != api.OK && (a != 0 || b != 0) {
			t.Fatal(x, a, b, e)
		}
		if o, n, e := ring.Cut(x.s, x.c, x.rings, x.measured); e != api.OK && (!sameClimate(o, api.Climate{}) || n != 0 && e != api.ErrAgainst) {
			t.Fatal(x, o, n, e)
		}
		if l, e := ring.Match(x.s, x.c, x.measured); e != api.OK && l != nil {
			t.Fatal(x, l, e)
		}
	}
}
