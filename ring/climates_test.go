package ring_test

import (
	"math"
	"math/rand"
	"slices"

	"sobreiro/api"
)

const (
	dry  = api.RgDry
	mean = api.RgMean
	wet  = api.RgWet
)

// often is how many climates are tried out where each one is counted out.
const often = 3000

func bounds(low, high int) api.Bounds { return api.Bounds{Min: low, Max: high} }

func rings(l ...api.Bounds) []api.Bounds { return l }

// kinds returns the kinds that letters stand for.
func kinds(letters string) (k api.Kinds) {
	for _, c := range letters {
		k[map[rune]api.Rain{'D': dry, 'M': mean, 'W': wet}[c]] = true
	}
	return k
}

func years(letters ...string) (l []api.Kinds) {
	for _, s := range letters {
		l = append(l, kinds(s))
	}
	return l
}

// exampleSite is the site S of the chapter's examples.
func exampleSite() api.Site {
	return api.Site{Grow: [3]api.Bounds{bounds(100, 150), bounds(200, 300), bounds(300, 401)}, Age: []int{800, 1000}}
}

// exampleClimate is the climate C of the chapter's examples.
func exampleClimate() api.Climate {
	c := free("MW", "DMW", "DM")
	c.Next[wet][wet] = false
	c.Dry = bounds(1, 2)
	return c
}

// free returns a climate in which any kind can come after any other one.
func free(letters ...string) api.Climate {
	all := [3]bool{true, true, true}
	return api.Climate{Years: years(letters...), Next: [3][3]bool{all, all, all}, Dry: bounds(0, api.MaxSeasons)}
}

// changed returns the example's climate, changed.
func changed(change func(c *api.Climate)) api.Climate {
	c := exampleClimate()
	change(&c)
	return c
}

// everyCourse counts out the courses of a climate, the least one first.
func everyCourse(c api.Climate) [][]api.Rain {
	all := [][]api.Rain{nil}
	for range c.Years {
		var longer [][]api.Rain
		for _, l := range all {
			for k := dry; k <= wet; k++ {
				longer = append(longer, append(slices.Clone(l), k))
			}
		}
		all = longer
	}
	return slices.DeleteFunc(all, func(l []api.Rain) bool { return !isCourse(c, l) })
}

func isCourse(c api.Climate, course []api.Rain) bool {
	return isBeginning(c, course) && dries(course) >= c.Dry.Min
}

// isBeginning says whether kinds can be those of the first years.
func isBeginning(c api.Climate, course []api.Rain) bool {
	for i, k := range course {
		if !c.Years[i][k] || i > 0 && !c.Next[course[i-1]][k] {
			return false
		}
	}
	return dries(course) <= c.Dry.Max
}

func dries(course []api.Rain) (n int) {
	for _, k := range course {
		if k == dry {
			n++
		}
	}
	return n
}

// ringOf returns the bounds of a ring before which so many have grown.
func ringOf(s api.Site, k api.Rain, before int) api.Bounds {
	f := s.Age[len(s.Age)-1]
	if before < len(s.Age) {
		f = s.Age[before]
	}
	return bounds(s.Grow[k].Min*f/1000, s.Grow[k].Max*f/1000)
}

// agrees says whether the rings of a course, from a year on, can be as they were measured.
func agrees(s api.Site, course []api.Rain, year, before int, measured []api.Bounds) bool {
	for i, m := range measured {
		can := ringOf(s, course[year+i], before+i)
		if can.Max < m.Min || m.Max < can.Min {
			return false
		}
	}
	return true
}

// union returns the kinds of each year in any of the courses.
func union(courses [][]api.Rain, many int) []api.Kinds {
	l := make([]api.Kinds, many)
	for _, course := range courses {
		for i, k := range course {
			l[i][k] = true
		}
	}
	return l
}

// within returns bounds that lie within others.
func within(r *rand.Rand, low, high int) api.Bounds {
	a, b := low+r.Intn(high-low+1), low+r.Intn(high-low+1)
	return bounds(min(a, b), max(a, b))
}

func someSite(r *rand.Rand) api.Site {
	s := api.Site{Age: make([]int, 1+r.Intn(4))}
	for i := range s.Age {
		s.Age[i] = r.Intn(api.MaxAging + 1)
	}
	top := []int{4, 40, api.MaxRing}[r.Intn(3)]
	for i := range s.Grow {
		s.Grow[i] = within(r, 0, top)
	}
	return s
}

// someClimate returns a climate of few years; often it has no course.
func someClimate(r *rand.Rand, many int) api.Climate {
	c := api.Climate{Years: make([]api.Kinds, r.Intn(many+1))}
	for i := range c.Years {
		for k := range c.Years[i] {
			c.Years[i][k] = r.Intn(3) > 0
		}
	}
	for a := range c.Next {
		for b := range c.Next[a] {
			c.Next[a][b] = r.Intn(4) > 0
		}
	}
	c.Dry = bounds(r.Intn(3), 0)
	c.Dry.Max = c.Dry.Min + r.Intn(4)
	return c
}

// someRings returns at most many measured rings, most of which can have grown on the site.
func someRings(r *rand.Rand, s api.Site, many int) []api.Bounds {
	l := make([]api.Bounds, r.Intn(many+1))
	for i := range l {
		can := ringOf(s, api.Rain(r.Intn(3)), i)
		l[i] = within(r, max(0, can.Min-r.Intn(20)), can.Max+r.Intn(20))
	}
	return l
}

// narrower returns a climate that allows no more than c does.
func narrower(r *rand.Rand, c api.Climate) api.Climate {
	c.Years = slices.Clone(c.Years)
	for i := range c.Years {
		for k := range c.Years[i] {
			c.Years[i][k] = c.Years[i][k] && r.Intn(5) > 0
		}
	}
	c.Dry = within(r, c.Dry.Min, c.Dry.Max)
	return c
}

func sameClimate(a, b api.Climate) bool {
	return slices.Equal(a.Years, b.Years) && a.Next == b.Next && a.Dry == b.Dry
}

func sameSite(a, b api.Site) bool { return a.Grow == b.Grow && slices.Equal(a.Age, b.Age) }

// outside returns the numbers next to a range, and the ends of all numbers.
func outside(low, high int) []int { return []int{low - 1, high + 1, math.MinInt, math.MaxInt} }

// wrongBounds returns what are not bounds from 0 to high.
func wrongBounds(high int) []api.Bounds {
	return []api.Bounds{bounds(-1, 0), bounds(0, high+1), bounds(2, 1), bounds(math.MinInt, math.MaxInt), bounds(math.MaxInt, math.MinInt)}
}
