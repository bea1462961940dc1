package yard_test

import (
	"math/rand"
	"slices"
	"testing"

	"sobreiro/api"
	"sobreiro/yard"
)

// together returns what is in all real stacks.
func (w *real) together() (dry, water int) {
	for _, s := range w.stacks {
		dry += s.dry
		water += s.water
	}
	return dry, water
}

// isConserved says whether nothing that really is there came from nowhere or went without a name.
func (w *real) isConserved() bool {
	dry, water := w.together()
	return w.piledDry == dry+w.broth+w.dust+w.soldDry && w.piledWater+w.soaked == water+w.vapour+w.soldWater
}

// isWithin says whether what is real lies in what is returned, stack by stack and in the account.
func (w *real) isWithin(s api.Standing) bool {
	a := s.Account
	in := isIn(w.vapour, a.Vapour) && isIn(w.broth, a.Broth) && isIn(w.dust, a.Dust) && isIn(w.soldDry, a.SoldDry) && isIn(w.soldWater, a.SoldWater) && isIn(w.soaked, a.Soaked)
	return in && slices.EqualFunc(w.stacks, s.Stacks, func(x realStack, s api.Stack) bool {
		holds := func(pile int) bool { return slices.Contains(s.From, pile) }
		return x.code == s.Code && isIn(x.dry, s.Dry) && isIn(x.water, s.Water) && !slices.ContainsFunc(x.piles, func(pile int) bool { return !holds(pile) })
	})
}

// isTrue says whether a stack's moisture and verdicts are true of what really is in it.
func (w *real) isTrue(t *testing.T, r *rand.Rand, y api.Yard, n int, x realStack) bool {
	b, e := yard.Moist(y, n, x.code)
	limits := []int{0, 1000, api.MaxSoak, r.Intn(api.MaxSoak + 1)}
	if e == api.OK {
		if b.Min*x.dry > x.water*1000 || x.water*1000 > b.Max*x.dry {
			return false
		}
		limits = append(limits, b.Min-1, b.Min, b.Min+1, b.Max-1, b.Max, b.Max+1)
	} else if e != api.ErrRoom {
		return false
	}
	for _, most := range limits {
		if most < 0 || most > api.MaxSoak {
			continue
		}
		v, e := yard.Dry(y, n, x.code, most)
		is := x.water*1000 <= most*x.dry
		if e != api.OK || v == api.VdAlways && !is || v == api.VdNever && is {
			return false
		}
	}
	return true
}

// P5.5, P5.6, P5.7, P0.2, P0.4: whatever really happens lies within what is returned, nothing comes from nowhere or is lost, and the verdicts are true.
func TestWhatIsReal(t *testing.T) {
	r := rand.New(rand.NewSource(6))
	happened, single := 0, 0
	for i := range often / 3 {
		y := realYard(r, 1+r.Intn(api.MaxDeeds), i%4 == 0)
		if i%4 == 0 {
			single++
		}
		var standings []api.Standing
		for n := range len(y.Deeds) + 1 {
			s, done, fault, e := yard.Follow(y, n)
			if done != n || fault != api.YdNone || e != api.OK {
				t.Fatal(y, n, done, fault, e)
			}
			standings = append(standings, s)
		}
		for range 20 {
			var w real
			for n, d := range y.Deeds {
				if !w.happens(r, n, d) {
					break
				}
				if !w.isConserved() || !w.isWithin(standings[n+1]) {
					t.Fatal(y, n, w, standings[n+1])
				}
				for _, x := range w.stacks {
					if r.Intn(150) == 0 && !w.isTrue(t, r, y, n+1, x) {
						t.Fatal(y, n, x)
					}
				}
				happened++
			}
		}
	}
	if happened < 100000 || single < 100 {
		t.Error("too little happened", happened, single)
	}
}

// balance returns what is there and where it went, dry bark and water, of what was piled and taken in.
func balance(s api.Standing) (dry, water api.Bounds) {
	a := s.Account
	dry = corners(corners(a.Broth, a.Dust, plus), a.SoldDry, plus)
	water = corners(a.Vapour, a.SoldWater, plus)
	for _, x := range s.Stacks {
		add(&dry, x.Dry)
		add(&water, x.Water)
	}
	return dry, corners(water, bounds(a.Soaked.Max, a.Soaked.Min), minus)
}

// P5.5: if all numbers are single ones, so are all that are returned, and they add up to what was piled.
func TestSingleNumbers(t *testing.T) {
	r := rand.New(rand.NewSource(7))
	for range often / 3 {
		y := realYard(r, api.MaxDeeds, true)
		piledDry, piledWater := known(0), known(0)
		for n, d := range y.Deeds {
			if d.Kind == api.YdPile {
				add(&piledDry, d.A)
				add(&piledWater, d.B)
			}
			s, _, _, _ := yard.Follow(y, n+1)
			for _, x := range s.Stacks {
				if !isKnown(x.Dry) || !isKnown(x.Water) {
					t.Fatal(y, n, s)
				}
			}
			a := s.Account
			for _, b := range []api.Bounds{a.Vapour, a.Broth, a.Dust, a.SoldDry, a.SoldWater, a.Soaked} {
				if !isKnown(b) {
					t.Fatal(y, n, s)
				}
			}
			if dry, water := balance(s); dry != piledDry || water != piledWater {
				t.Fatal(y, n, s, dry, water)
			}
		}
	}
}
