package fire_test

import (
	"math/rand"
	"slices"
	"testing"

	"sobreiro/api"
	"sobreiro/fire"
)

// lower returns bounds that are at most others at both ends.
func lower(r *rand.Rand, b api.Bounds) api.Bounds {
	low := r.Intn(b.Min + 1)
	return bounds(low, low+r.Intn(b.Max-low+1))
}

// milder returns land and a day, with the same winds, on which fire does less.
func milder(r *rand.Rand, l api.Land, d api.FireDay) (api.Land, api.FireDay) {
	l.Fuel = slices.Clone(l.Fuel)
	switch r.Intn(5) {
	case 0:
		c := r.Intn(len(l.Fuel))
		l.Fuel[c] = lower(r, l.Fuel[c])
	case 1:
		d.Dry = lower(r, d.Dry)
	case 2:
		d.Hours = r.Intn(d.Hours + 1)
	case 3:
		l = walled(r, l)
	default:
		l.Limit += r.Intn(3)
	}
	return l, d
}

// certainty is how surely a cell with a verdict burns.
func certainty(v api.Verdict) int { return map[api.Verdict]int{never: 0, unknown: 1, always: 2}[v] }

// isEarlier says whether an hour of a milder fire is earlier than that of a wilder one.
func isEarlier(mild, wild int) bool { return mild >= 0 && (wild < 0 || mild < wild) }

// P3.8: with less fuel, a lower dryness, fewer hours, one more wall or a greater Limit no cell burns more surely, nor earlier.
func TestMilder(t *testing.T) {
	r := rand.New(rand.NewSource(13))
	changes := 0
	for range 20 * often {
		l, d := someLand(r, 8, 20), someDay(r)
		from, to := someCells(r, l, 8), someCells(r, l, 8)
		mild, tame := milder(r, l, d)
		v, h, e := fire.Burns(l, d, from)
		w, g, f := fire.Burns(mild, tame, from)
		if e != api.OK || f != api.OK {
			t.Fatal(l, d, from, mild, tame, e, f)
		}
		for c := range v {
			if certainty(w[c]) > certainty(v[c]) || isEarlier(g[c], h[c]) {
				t.Fatal(l, d, from, mild, tame, c, v, w, h, g)
			}
			if v[c] != w[c] {
				changes++
			}
		}
		_, crossed, _ := fire.Crosses(l, []api.FireDay{d}, from, to)
		if _, found, _ := fire.Crosses(mild, []api.FireDay{tame}, from, to); found && !crossed {
			t.Fatal(l, d, from, to, mild, tame)
		}
	}
	if changes < often {
		t.Error("too few verdicts change", changes)
	}
}

// P3.8: with fewer winds what always burns still does, what never burns still does not, and nothing burns earlier.
func TestFewerWinds(t *testing.T) {
	r := rand.New(rand.NewSource(14))
	for range 10 * often {
		l, d := someLand(r, 8, 20), someDay(r)
		from := someCells(r, l, 8)
		fewer := d
		for w := range d.Winds {
			fewer.Winds[w] = d.Winds[w] && r.Intn(2) == 0
		}
		if fewer.Winds == winds() {
			continue
		}
		v, h, _ := fire.Burns(l, d, from)
		w, g, e := fire.Burns(l, fewer, from)
		for c := range v {
			if v[c] != unknown && w[c] != v[c] || isEarlier(g[c], h[c]) || e != api.OK {
				t.Fatal(l, d, from, fewer, c, v, w, h, g, e)
			}
		}
	}
}

// R3: nil and empty slices are the same value.
func TestNilAndEmpty(t *testing.T) {
	l, none := flat(2, 1, 5), []int{}
	l.Walls = []api.Wall{}
	if v, h, e := fire.Burns(l, exampleDay(), none); !slices.Equal(v, []api.Verdict{never, never}) || !slices.Equal(h, cells(-1, -1)) || e != api.OK {
		t.Error(v, h, e)
	}
	if _, found, e := fire.Crosses(l, []api.FireDay{}, none, none); found || e != api.OK {
		t.Error(found, e)
	}
	if got, found, e := fire.Clear(l, []api.FireDay{}, none, none, none); len(got) > 0 || !found || e != api.OK {
		t.Error(got, found, e)
	}
	if is, e := fire.Proves(l, exampleDay(), calm, none, cells(-1, -1)); !is || e != api.OK {
		t.Error(is, e)
	}
	if _, e := fire.Labels(api.Land{Width: 1, Height: 1, Slow: 1, Fuel: []api.Bounds{}}, exampleDay(), calm, none); e != api.ErrCount {
		t.Error(e)
	}
}

// R4: no argument is changed, and no result shares memory with one.
func TestArgumentsAreKept(t *testing.T) {
	l, all := exampleLand(), days(asItIs, within6)
	from, to, may, labels := cells(0), cells(5), cells(2, 4), cells(0, 3, 5, 2, 5, 7)
	eats, rain := fuels(1, 1, 1, 1, 1, 1), fuels(1, 2)
	fire.CheckLand(l)
	fire.CheckDay(all[0])
	fire.Proves(l, all[0], calm, from, labels)
	fire.Print(l, all)
	verdicts, hours, _ := fire.Burns(l, all[0], from)
	c, _, _ := fire.Crosses(l, all, from, to)
	own, _ := fire.Labels(l, all[0], calm, from)
	cleared, _, _ := fire.Clear(l, all, from, to, may)
	grazed, _ := fire.Graze(l, 0, known(0), eats)
	dry, _ := fire.Dryness(known(5), rain)
	clear(verdicts)
	clear(hours)
	clear(c.Path)
	clear(own)
	clear(cleared)
	clear(grazed.Fuel)
	clear(grazed.Walls)
	clear(dry)
	if len(c.Path) == 0 || len(cleared) == 0 || len(grazed.Walls) == 0 || !sameLand(l, exampleLand()) || !slices.Equal(all, days(asItIs, within6)) {
		t.Error(c, cleared, grazed, l, all)
	}
	if !slices.Equal(slices.Concat(from, to, may, labels), cells(0, 5, 2, 4, 0, 3, 5, 2, 5, 7)) || !slices.Equal(eats, fuels(1, 1, 1, 1, 1, 1)) || !slices.Equal(rain, fuels(1, 2)) {
		t.Error(from, to, may, labels, eats, rain)
	}
}

// P0.1: what is followed at once gives the same each time.
func TestSameEachTime(t *testing.T) {
	r := rand.New(rand.NewSource(15))
	for range often {
		l, several := someLand(r, 8, 20), someDays(r, 10)
		from, to, may := someCells(r, l, 8), someCells(r, l, 8), someCells(r, l, 12)
		may = may[:min(len(may), 8)]
		c, found, _ := fire.Crosses(l, several, from, to)
		list, can, _ := fire.Clear(l, several, from, to, may)
		for range 3 {
			if again, ok, e := fire.Crosses(l, several, from, to); !sameCrossing(again, c) || ok != found || e != api.OK {
				t.Fatal(l, several, from, to, c, again)
			}
			if again, ok, e := fire.Clear(l, several, from, to, may); !slices.Equal(again, list) || ok != can || e != api.OK {
				t.Fatal(l, several, from, to, may, list, again)
			}
		}
	}
}
