package press_test

import (
	"math/rand"
	"slices"
	"testing"

	"sobreiro/api"
	"sobreiro/press"
)

// exampleRecipe is the recipe of the chapter's example.
func exampleRecipe() api.Recipe {
	return api.Recipe{Parts: 4, Density: bounds(100, 120), Fine: 250, Granules: []api.Granule{
		{Density: 90, Price: 5, Stock: 4},
		{Density: 140, Price: 3, Stock: 4},
		{Density: 110, Price: 2, Stock: 3, Fine: true},
	}}
}

// blend is what Mix says of a valid recipe.
type blend struct {
	parts []int
	cost  int
	found bool
}

func (b blend) is(other blend) bool {
	return slices.Equal(b.parts, other.parts) && b.cost == other.cost && b.found == other.found
}

// beats says whether a mix is to be returned rather than another one.
func (b blend) beats(other blend) bool {
	return !other.found || b.cost < other.cost || b.cost == other.cost && slices.Compare(b.parts, other.parts) < 0
}

func mixOf(t *testing.T, r api.Recipe) blend {
	t.Helper()
	parts, cost, found, e := press.Mix(r)
	if e != api.OK {
		t.Fatal(r, e)
	}
	return blend{parts, cost, found}
}

// tellMix goes through all numbers of parts that the stocks allow.
func tellMix(r api.Recipe) (best blend) {
	var goOn func(parts []int)
	goOn = func(parts []int) {
		if i := len(parts); i < len(r.Granules) {
			for n := 0; n <= r.Granules[i].Stock; n++ {
				goOn(append(slices.Clone(parts), n))
			}
			return
		}
		if m := (blend{parts, costOf(r, parts), true}); isMix(r, parts) && m.beats(best) {
			best = m
		}
	}
	goOn(nil)
	return best
}

// isMix says whether a list is a mix, as the chapter tells it.
func isMix(r api.Recipe, parts []int) bool {
	number, mass, fine := 0, 0, 0
	for i, n := range parts {
		g := r.Granules[i]
		if n < 0 || n > g.Stock {
			return false
		}
		number += n
		mass += n * g.Density
		if g.Fine {
			fine += n
		}
	}
	return len(parts) == len(r.Granules) && number == r.Parts && isIn(mass, bounds(number*r.Density.Min, number*r.Density.Max)) && fine*1000 <= number*r.Fine
}

func costOf(r api.Recipe, parts []int) (cost int) {
	for i, n := range parts {
		cost += n * r.Granules[i].Price
	}
	return cost
}

// reckonMix finds the best mix of many parts: of all lists of the last granules that come to the same, only the best is gone on with.
func reckonMix(r api.Recipe) (best blend) {
	type state struct{ parts, mass, fine int }
	tails := map[state]blend{{}: {found: true}}
	for _, g := range slices.Backward(r.Granules) {
		longer := map[state]blend{}
		for s, tail := range tails {
			for n := 0; n <= min(g.Stock, r.Parts-s.parts); n++ {
				to := state{s.parts + n, s.mass + n*g.Density, s.fine}
				if g.Fine {
					to.fine += n
				}
				m := blend{append([]int{n}, tail.parts...), tail.cost + n*g.Price, true}
				if m.beats(longer[to]) {
					longer[to] = m
				}
			}
		}
		tails = longer
	}
	for _, m := range tails {
		if isMix(r, m.parts) && m.beats(best) {
			best = m
		}
	}
	return best
}

// P8.3: the chapter's example, and what the edges of a recipe allow.
func TestMix(t *testing.T) {
	for i, x := range []struct {
		change func(r *api.Recipe)
		want   blend
	}{
		{func(r *api.Recipe) {}, blend{[]int{1, 2, 1}, 13, true}},
		{func(r *api.Recipe) { r.Fine = 249 }, blend{[]int{2, 2, 0}, 16, true}},
		{func(r *api.Recipe) { r.Fine = 0 }, blend{[]int{2, 2, 0}, 16, true}},
		{func(r *api.Recipe) { r.Fine = 499 }, blend{[]int{1, 2, 1}, 13, true}},
		{func(r *api.Recipe) { r.Fine = 500 }, blend{[]int{1, 1, 2}, 12, true}},
		{func(r *api.Recipe) { r.Fine = 1000 }, blend{[]int{0, 1, 3}, 9, true}},
		{func(r *api.Recipe) { r.Fine, r.Granules[2].Stock = 1000, 4 }, blend{[]int{0, 0, 4}, 8, true}},
		{func(r *api.Recipe) { r.Density.Max = 119 }, blend{[]int{2, 1, 1}, 15, true}},
		{func(r *api.Recipe) { r.Density.Max = 140 }, blend{[]int{0, 3, 1}, 11, true}},
		{func(r *api.Recipe) { r.Density = known(140) }, blend{[]int{0, 4, 0}, 12, true}},
		{func(r *api.Recipe) { r.Density = bounds(141, 1000) }, blend{}},
		{func(r *api.Recipe) { r.Density = bounds(0, 89) }, blend{}},
		{func(r *api.Recipe) { r.Density = bounds(0, 90) }, blend{[]int{4, 0, 0}, 20, true}},
		{func(r *api.Recipe) { r.Density = known(111) }, blend{}},
		{func(r *api.Recipe) { r.Granules[1].Stock = 1 }, blend{[]int{2, 1, 1}, 15, true}},
		{func(r *api.Recipe) { r.Granules[0].Stock = 0 }, blend{}},
		{func(r *api.Recipe) { r.Parts = 11; r.Fine = 1000; r.Density = known(112) }, blend{}}, // 90 * 4 + 140 * 4 + 110 * 3 = 1250
		{func(r *api.Recipe) { r.Parts = 11; r.Fine = 1000; r.Density = bounds(113, 114) }, blend{[]int{4, 4, 3}, 38, true}},
		{func(r *api.Recipe) { r.Parts = 12; r.Fine = 1000; r.Density = bounds(0, 1000) }, blend{}},
		{func(r *api.Recipe) { r.Granules = nil }, blend{}},
		{func(r *api.Recipe) { r.Granules = nil; r.Density = bounds(0, 1000) }, blend{}},
		{func(r *api.Recipe) { r.Granules = r.Granules[:1]; r.Density = known(90) }, blend{[]int{4}, 20, true}},
		{func(r *api.Recipe) { r.Granules = r.Granules[:1]; r.Density = known(90); r.Parts = 3 }, blend{[]int{3}, 15, true}},
		{func(r *api.Recipe) { r.Granules = r.Granules[:1]; r.Density = known(90); r.Parts = 5 }, blend{}},
		// A mix of no cost, and of several mixes the least list.
		{func(r *api.Recipe) {
			r.Density, r.Fine = bounds(0, 1000), 1000
			r.Granules[0].Price, r.Granules[1].Price, r.Granules[2].Price = 0, 0, 0
		}, blend{[]int{0, 1, 3}, 0, true}},
		{func(r *api.Recipe) { r.Granules[0].Price, r.Granules[1].Price, r.Granules[2].Price = 7, 7, 7 }, blend{[]int{1, 2, 1}, 28, true}},
		{func(r *api.Recipe) {
			r.Density, r.Granules[0].Price, r.Granules[1].Price, r.Granules[2].Price = bounds(0, 1000), 1, 0, 1
		}, blend{[]int{0, 4, 0}, 0, true}},
		{func(r *api.Recipe) { r.Granules = slices.Repeat(r.Granules[:1], 6); r.Density = known(90) }, blend{[]int{0, 0, 0, 0, 0, 4}, 20, true}},
		{func(r *api.Recipe) {
			r.Parts, r.Density, r.Granules = 30, known(1000), []api.Granule{{Density: 1000, Price: 1000, Stock: 30}}
		}, blend{[]int{30}, 30000, true}},
		{func(r *api.Recipe) {
			r.Parts, r.Density, r.Fine, r.Granules = 1, known(0), 0, []api.Granule{{Stock: 1, Fine: true}, {Stock: 1}}
		}, blend{[]int{0, 1}, 0, true}},
		{func(r *api.Recipe) {
			r.Parts, r.Density, r.Fine, r.Granules = 1, known(0), 999, []api.Granule{{Stock: 1, Fine: true}}
		}, blend{}},
		{func(r *api.Recipe) {
			r.Parts, r.Density, r.Fine, r.Granules = 1, known(0), 1000, []api.Granule{{Stock: 1, Fine: true}}
		}, blend{[]int{1}, 0, true}},
		// A third of the parts: 10 * 1000 is more than 30 * 333.
		{func(r *api.Recipe) {
			r.Parts, r.Density, r.Fine, r.Granules = 30, known(0), 333, []api.Granule{{Stock: 30, Fine: true}, {Stock: 30, Price: 1}}
		}, blend{[]int{9, 21}, 21, true}},
		{func(r *api.Recipe) {
			r.Parts, r.Density, r.Fine, r.Granules = 30, known(0), 334, []api.Granule{{Stock: 30, Fine: true}, {Stock: 30, Price: 1}}
		}, blend{[]int{10, 20}, 20, true}},
	} {
		r := exampleRecipe()
		x.change(&r)
		if m := mixOf(t, r); !m.is(x.want) || m.found != (m.parts != nil) {
			t.Error(i, m)
		}
	}
}

// someRecipe returns a recipe that often has a mix: densities are multiples of step, and stocks and parts at most many.
func someRecipe(r *rand.Rand, many, step int) api.Recipe {
	x := api.Recipe{Parts: 1 + r.Intn(many), Fine: []int{0, 1000, r.Intn(1001), r.Intn(1001)}[r.Intn(4)]}
	middle := r.Intn(1001)
	x.Density = around(r, middle, []int{0, 20, 200, 1000}[r.Intn(4)], 0, api.MaxDensity)
	prices := []int{0, 1, 3, api.MaxPartPrice}[r.Intn(4)]
	for range r.Intn(api.MaxGranules + 1) {
		x.Granules = append(x.Granules, api.Granule{
			Density: near(r, middle, 300, 0, api.MaxDensity) / step * step,
			Price:   r.Intn(prices + 1),
			Stock:   r.Intn(min(many, api.MaxParts) + 1),
			Fine:    r.Intn(3) == 0,
		})
	}
	return x
}

// P8.3, P8.7, P0.3: all lists of small recipes counted out.
func TestMixCounted(t *testing.T) {
	r := rand.New(rand.NewSource(9))
	found := 0
	for range often {
		x := someRecipe(r, 3+r.Intn(2), 1+r.Intn(2)*49)
		got, want := mixOf(t, x), tellMix(x)
		if !got.is(want) {
			t.Fatal(x, got, want)
		}
		if other := reckonMix(x); !other.is(want) {
			t.Fatal("the other reckoning", x, other, want)
		}
		if got.found {
			found++
		}
	}
	if found < often/5 || found > often*4/5 {
		t.Error("too few, or too many, were found", found)
	}
}

// P8.3, P8.7, P0.3: recipes of all sizes against another reckoning.
func TestMixGreat(t *testing.T) {
	r := rand.New(rand.NewSource(10))
	found := 0
	for range often / 20 {
		x := someRecipe(r, api.MaxParts, 100)
		x.Parts = 10 + r.Intn(21)
		if got, want := mixOf(t, x), reckonMix(x); !got.is(want) {
			t.Fatal(x, got, want)
		} else if got.found {
			found++
		}
	}
	if found < often/100 {
		t.Error("too few were found", found)
	}
}

// fullRecipe has the most lists of parts that a recipe can have.
func fullRecipe() api.Recipe {
	x := api.Recipe{Parts: api.MaxParts, Density: bounds(400, 410), Fine: 300}
	for i := range api.MaxGranules {
		x.Granules = append(x.Granules, api.Granule{Density: 137 * (i + 1), Price: 10 + i*i%7, Stock: api.MaxParts, Fine: i%2 == 1})
	}
	return x
}

// P8.3, P8.7: as much of everything as there can be, and the same again, in whichever order numbers are looked at.
func TestMixFull(t *testing.T) {
	x := fullRecipe()
	want := reckonMix(x)
	for range 10 {
		if got := mixOf(t, x); !got.is(want) || !got.found {
			t.Fatal(got, want)
		}
	}
	x.Density = known(0)
	if got := mixOf(t, x); !got.is(blend{}) {
		t.Error(got)
	}
}

// P8.7: more stock, lower prices, wider bounds and more that may be fine never make a mix dearer.
func TestMixEased(t *testing.T) {
	r := rand.New(rand.NewSource(11))
	cheaper := 0
	for range 2 * often {
		x := someRecipe(r, 8, 1)
		eased := x
		eased.Granules = slices.Clone(x.Granules)
		for i := range eased.Granules {
			g := &eased.Granules[i]
			switch r.Intn(4) {
			case 0:
				g.Stock = near(r, g.Stock+3, 3, 0, api.MaxParts)
			case 1:
				g.Price = held(g.Price-r.Intn(3), 0, api.MaxPartPrice)
			}
		}
		switch r.Intn(3) {
		case 0:
			eased.Density = bounds(held(x.Density.Min-r.Intn(20), 0, api.MaxDensity), held(x.Density.Max+r.Intn(20), 0, api.MaxDensity))
		case 1:
			eased.Fine = near(r, x.Fine+100, 100, 0, 1000)
		}
		before, after := mixOf(t, x), mixOf(t, eased)
		if before.found && (!after.found || after.cost > before.cost) {
			t.Fatal(x, eased, before, after)
		}
		if after.found && (!before.found || after.cost < before.cost) {
			cheaper++
		}
	}
	if cheaper < often/10 {
		t.Error("too few got cheaper", cheaper)
	}
}
