package fire_test

import (
	"iter"
	"math"
	"math/rand"
	"slices"

	"sobreiro/api"
)

const (
	calm  = api.FrCalm
	north = api.FrNorth
	east  = api.FrEast
	south = api.FrSouth
	west  = api.FrWest
)

const (
	unknown = api.VdUnknown
	always  = api.VdAlways
	never   = api.VdNever
)

// often is how many lands are tried out where each case of them is counted out.
const often = 400

func bounds(low, high int) api.Bounds { return api.Bounds{Min: low, Max: high} }

func known(n int) api.Bounds { return bounds(n, n) }

func cells(l ...int) []int { return l }

func fuels(l ...int) (b []api.Bounds) {
	for _, n := range l {
		b = append(b, known(n))
	}
	return b
}

func winds(l ...api.Wind) (possible [5]bool) {
	for _, w := range l {
		possible[w] = true
	}
	return possible
}

// exampleLand is the land L of the chapter's examples.
func exampleLand() api.Land {
	l := api.Land{Width: 3, Height: 2, Limit: 8, Slow: 12, Fuel: fuels(4, 4, 4, 4, 4, 4), Walls: []api.Wall{{A: 3, B: 4, Hold: 12}}}
	l.Fuel[1] = bounds(2, 3)
	return l
}

// exampleDay is the day D of the chapter's examples.
func exampleDay() api.FireDay {
	return api.FireDay{Dry: bounds(5, 6), Winds: winds(calm, east), Hours: 10}
}

// days returns the example's day, changed in each of some ways.
func days(changes ...func(d *api.FireDay)) (l []api.FireDay) {
	for _, change := range changes {
		d := exampleDay()
		change(&d)
		l = append(l, d)
	}
	return l
}

func asItIs(d *api.FireDay) {}

func within6(d *api.FireDay) { d.Hours = 6 }

func withWinds(l ...api.Wind) func(d *api.FireDay) {
	return func(d *api.FireDay) { d.Winds = winds(l...) }
}

// flat returns land without walls where each step takes an hour, with one fuel everywhere.
func flat(width, height, fuel int) api.Land {
	return api.Land{Width: width, Height: height, Slow: 1, Fuel: slices.Repeat(fuels(fuel), width*height)}
}

// situation is a case of a day.
type situation struct {
	land api.Land // whose fuels are real
	dry  int
	wind api.Wind
}

// situations yields all cases of a day.
func situations(l api.Land, d api.FireDay) iter.Seq[situation] {
	return func(yield func(situation) bool) {
		for real := range everyFuel(l, 0) {
			for dry := d.Dry.Min; dry <= d.Dry.Max; dry++ {
				for w, possible := range d.Winds {
					if possible && !yield(situation{real, dry, api.Wind(w)}) {
						return
					}
				}
			}
		}
	}
}

// everyFuel yields the land with each real fuel of the cells from one on.
func everyFuel(l api.Land, cell int) iter.Seq[api.Land] {
	return func(yield func(api.Land) bool) {
		if cell == len(l.Fuel) {
			yield(l)
			return
		}
		for n := l.Fuel[cell].Min; n <= l.Fuel[cell].Max; n++ {
			real := l
			real.Fuel = slices.Clone(l.Fuel)
			real.Fuel[cell] = known(n)
			for full := range everyFuel(real, cell+1) {
				if !yield(full) {
					return
				}
			}
		}
	}
}

// hottest returns the case with a wind and the greatest fuels and dryness.
func hottest(l api.Land, d api.FireDay, wind api.Wind) situation {
	l.Fuel = slices.Clone(l.Fuel)
	for i, b := range l.Fuel {
		l.Fuel[i] = known(b.Max)
	}
	return situation{l, d.Dry.Max, wind}
}

// pass returns the hours in which fire passes from a cell to another one, or 0 if it does not.
func (s situation) pass(a, b int) int {
	l := s.land
	var toward api.Wind
	switch {
	case b == a-l.Width:
		toward = north
	case b == a+l.Width:
		toward = south
	case b == a+1 && b%l.Width > 0:
		toward = east
	case b == a-1 && a%l.Width > 0:
		toward = west
	default:
		return 0
	}
	fuel := l.Fuel[b].Min
	strength := fuel + s.dry
	opposite := map[api.Wind]api.Wind{north: south, south: north, east: west, west: east}
	if s.wind == toward {
		strength += 2
	}
	if s.wind == opposite[toward] {
		strength -= 2
	}
	if fuel == 0 || strength < l.Limit {
		return 0
	}
	for _, w := range l.Walls {
		if (w.A == a && w.B == b || w.A == b && w.B == a) && strength < w.Hold {
			return 0
		}
	}
	return max(1, l.Slow-strength)
}

// hours returns the hour of each cell, or -1. The hours are lowered until no step lowers one.
func (s situation) hours(d api.FireDay, from []int) []int {
	l := slices.Repeat(cells(-1), len(s.land.Fuel))
	for _, c := range from {
		if s.land.Fuel[c].Min > 0 {
			l[c] = 0
		}
	}
	for lower := true; lower; {
		lower = false
		for a := range l {
			for b := range l {
				h := s.pass(a, b)
				if l[a] >= 0 && h > 0 && l[a]+h <= d.Hours && (l[b] < 0 || l[a]+h < l[b]) {
					l[b], lower = l[a]+h, true
				}
			}
		}
	}
	return l
}

// paths yields all paths without a cell twice, with their hours.
func (s situation) paths(d api.FireDay, from []int) iter.Seq2[[]int, int] {
	return func(yield func([]int, int) bool) {
		var walk func(path []int, hours int) bool
		walk = func(path []int, hours int) bool {
			if !yield(path, hours) {
				return false
			}
			for b := range s.land.Fuel {
				h := s.pass(path[len(path)-1], b)
				if h > 0 && hours+h <= d.Hours && !slices.Contains(path, b) && !walk(append(slices.Clone(path), b), hours+h) {
					return false
				}
			}
			return true
		}
		for _, c := range from {
			if s.land.Fuel[c].Min > 0 && !walk(cells(c), 0) {
				return
			}
		}
	}
}

// burns says whether one of some cells burns.
func (s situation) burns(d api.FireDay, from, to []int) bool {
	hours := s.hours(d, from)
	return slices.ContainsFunc(to, func(c int) bool { return hours[c] >= 0 })
}

// crosses says whether one of some cells burns in a case of one of several days.
func crosses(l api.Land, days []api.FireDay, from, to []int) bool {
	for _, d := range days {
		for s := range situations(l, d) {
			if s.burns(d, from, to) {
				return true
			}
		}
	}
	return false
}

// cleared returns the land without the fuel of some cells.
func cleared(l api.Land, cells []int) api.Land {
	l.Fuel = slices.Clone(l.Fuel)
	for _, c := range cells {
		l.Fuel[c] = known(0)
	}
	return l
}

// within returns bounds that lie within others.
func within(r *rand.Rand, low, high int) api.Bounds {
	a, b := low+r.Intn(high-low+1), low+r.Intn(high-low+1)
	return bounds(min(a, b), max(a, b))
}

// someLand returns land in which many fires are held. At most loose cells have a fuel that is not known.
func someLand(r *rand.Rand, side, loose int) api.Land {
	l := api.Land{Width: 1 + r.Intn(side), Height: 1 + r.Intn(side), Limit: r.Intn(13), Slow: 1 + r.Intn(20)}
	for range l.Width * l.Height {
		l.Fuel = append(l.Fuel, known(r.Intn(10)))
	}
	for range loose {
		n := r.Intn(9)
		l.Fuel[r.Intn(len(l.Fuel))] = bounds(n, n+1)
	}
	for range r.Intn(6) {
		l = walled(r, l)
	}
	return l
}

// walled returns the land with one more wall, if there is a place for it.
func walled(r *rand.Rand, l api.Land) api.Land {
	a := r.Intn(len(l.Fuel))
	var beside []int
	if a%l.Width+1 < l.Width {
		beside = append(beside, a+1)
	}
	if a+l.Width < len(l.Fuel) {
		beside = append(beside, a+l.Width)
	}
	for _, b := range beside {
		isBetween := func(w api.Wall) bool { return min(w.A, w.B) == a && max(w.A, w.B) == b }
		if r.Intn(2) == 0 || len(l.Walls) == api.MaxWalls || slices.ContainsFunc(l.Walls, isBetween) {
			continue
		}
		w := api.Wall{A: a, B: b, Hold: r.Intn(20)}
		if r.Intn(2) == 0 {
			w.A, w.B = b, a
		}
		l.Walls = append(slices.Clone(l.Walls), w)
		break
	}
	return l
}

func someDay(r *rand.Rand) api.FireDay {
	d := api.FireDay{Hours: r.Intn(40)}
	d.Dry.Min = r.Intn(8)
	d.Dry.Max = d.Dry.Min + r.Intn(3)
	for w := range d.Winds {
		d.Winds[w] = r.Intn(3) == 0
	}
	d.Winds[r.Intn(5)] = true
	return d
}

func someDays(r *rand.Rand, most int) (l []api.FireDay) {
	for range r.Intn(most + 1) {
		l = append(l, someDay(r))
	}
	return l
}

// someCells returns some cells of land, one of so many.
func someCells(r *rand.Rand, l api.Land, of int) (some []int) {
	for c := range l.Fuel {
		if r.Intn(of) == 0 {
			some = append(some, c)
		}
	}
	return some
}

func sameLand(a, b api.Land) bool {
	return a.Width == b.Width && a.Height == b.Height && a.Limit == b.Limit && a.Slow == b.Slow && slices.Equal(a.Fuel, b.Fuel) && slices.Equal(a.Walls, b.Walls)
}

func sameCrossing(a, b api.Crossing) bool {
	return a.Day == b.Day && a.Wind == b.Wind && slices.Equal(a.Path, b.Path) && a.Hours == b.Hours
}

// outside returns the numbers next to a range, and the ends of all numbers.
func outside(low, high int) []int { return []int{low - 1, high + 1, math.MinInt, math.MaxInt} }

// wrongBounds returns what are not bounds from 0 to high.
func wrongBounds(high int) []api.Bounds {
	return []api.Bounds{bounds(-1, 0), bounds(0, high+1), bounds(2, 1), bounds(math.MinInt, math.MaxInt), bounds(math.MaxInt, math.MinInt)}
}
