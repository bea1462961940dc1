package yard_test

import (
	"math/rand"
	"slices"
	"testing"

	"sobreiro/api"
	"sobreiro/yard"
)

// changePlaces says whether two neighbouring deeds can change places.
func changePlaces(a, b api.Deed) bool {
	kinds := []api.DeedKind{api.YdRest, api.YdBoil, api.YdScrape, api.YdWeigh}
	return a.Day == b.Day && a.Stack != b.Stack && slices.Contains(kinds, a.Kind) && slices.Contains(kinds, b.Kind)
}

// P5.8: two neighbouring deeds of a day about different stacks can change places.
func TestNeighbours(t *testing.T) {
	r := rand.New(rand.NewSource(8))
	changed := 0
	for range often {
		y := someYard(r, 1+r.Intn(api.MaxDeeds), false)
		for i := range len(y.Deeds) - 1 {
			if !changePlaces(y.Deeds[i], y.Deeds[i+1]) {
				continue
			}
			changed++
			z := y
			z.Deeds = slices.Clone(y.Deeds)
			z.Deeds[i], z.Deeds[i+1] = y.Deeds[i+1], y.Deeds[i]
			for _, n := range []int{i + 2, len(y.Deeds)} {
				s, _, fault, e := yard.Follow(y, n)
				if fault != api.YdNone || e != api.OK {
					t.Fatal(y, n, fault, e)
				}
				follows(t, "changed", z, n, s, n, api.YdNone)
			}
		}
	}
	if changed < 1000 {
		t.Error("too few deeds change places", changed)
	}
}

// P5.8: more deeds never change what was done before them.
func TestMoreDeeds(t *testing.T) {
	r := rand.New(rand.NewSource(9))
	for range often {
		y := someYard(r, 1+r.Intn(api.MaxDeeds), true)
		short := y
		short.Deeds = y.Deeds[:r.Intn(len(y.Deeds)+1)]
		n := r.Intn(len(short.Deeds) + 1)
		s, done, fault, _ := yard.Follow(short, n)
		follows(t, "more", y, n, s, done, fault)
		// The fault of a deed stays, and so does what is there then.
		if fault != api.YdNone {
			follows(t, "after a fault", y, len(y.Deeds), s, done, fault)
		} else {
			all, k, _, _ := yard.Follow(y, len(y.Deeds))
			if k < n || k == n && !sameStanding(all, s) {
				t.Fatal(y, n, s, all, k)
			}
		}
	}
}

// narrower returns a yard, some of whose bounds are narrower.
func narrower(r *rand.Rand, y api.Yard) api.Yard {
	narrow := func(b api.Bounds) api.Bounds {
		if r.Intn(3) > 0 {
			return b
		}
		low := within(r, b)
		return bounds(low, within(r, bounds(low, b.Max)))
	}
	y.Deeds = slices.Clone(y.Deeds)
	for i, d := range y.Deeds {
		y.Deeds[i].A, y.Deeds[i].B = narrow(d.A), narrow(d.B)
	}
	return y
}

// P5.8: narrower bounds never widen what is there, as long as no deed has a fault.
func TestNarrowerBounds(t *testing.T) {
	r := rand.New(rand.NewSource(10))
	compared := 0
	for range 3 * often {
		y := realYard(r, 1+r.Intn(15), false)
		z := narrower(r, y)
		n := len(y.Deeds)
		wide, _, _, _ := yard.Follow(y, n)
		s, done, fault, e := yard.Follow(z, n)
		if e != api.OK {
			t.Fatal(z, e)
		}
		if fault != api.YdNone {
			wide, _, _, _ = yard.Follow(y, done)
		}
		if done < 3 {
			continue
		}
		compared++
		same := slices.EqualFunc(s.Stacks, wide.Stacks, func(a, b api.Stack) bool {
			c := a
			c.Dry, c.Water = b.Dry, b.Water
			return isInside(a.Dry, b.Dry) && isInside(a.Water, b.Water) && sameStack(c, b)
		})
		a, b := s.Account, wide.Account
		if !same || !isInside(a.Vapour, b.Vapour) || !isInside(a.Broth, b.Broth) || !isInside(a.Dust, b.Dust) || !isInside(a.SoldDry, b.SoldDry) || !isInside(a.SoldWater, b.SoldWater) || !isInside(a.Soaked, b.Soaked) {
			t.Fatal(y, z, done, s, wide)
		}
	}
	if compared < often {
		t.Error("too few were compared", compared)
	}
}
