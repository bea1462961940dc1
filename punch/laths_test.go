package punch_test

import (
	"iter"
	"math"
	"math/rand"
	"slices"

	"sobreiro/api"
	"sobreiro/punch"
)

// often is how many laths are tried out.
const often = 2000

func bounds(low, high int) api.Bounds { return api.Bounds{Min: low, Max: high} }

func known(n int) api.Bounds { return bounds(n, n) }

func isIn(n int, b api.Bounds) bool { return b.Min <= n && n <= b.Max }

// outside returns numbers that are not from low to high.
func outside(low, high int) []int {
	return []int{low - 1, high + 1, -1000000007, 1000000007, math.MinInt, math.MaxInt}
}

// exampleLath is the lath of the chapter's examples.
func exampleLath() api.Lath {
	return api.Lath{
		Length: 12, Width: 4, Gap: 1,
		Prices: []int{10, 6, 1},
		Flaws: []api.Flaw{
			{From: bounds(3, 4), To: bounds(5, 6), Grade: 2, Sure: true},
			{From: known(9), To: bounds(10, 12), Grade: 1},
		},
	}
}

// changed returns the example's lath, changed.
func changed(change func(l *api.Lath)) api.Lath {
	l := exampleLath()
	change(&l)
	return l
}

func copyOf(l api.Lath) api.Lath {
	l.Prices, l.Flaws = slices.Clone(l.Prices), slices.Clone(l.Flaws)
	return l
}

func sameLath(a, b api.Lath) bool {
	return a.Length == b.Length && a.Width == b.Width && a.Gap == b.Gap && slices.Equal(a.Prices, b.Prices) && slices.Equal(a.Flaws, b.Flaws)
}

// realFlaw is a flaw that is there: it covers the cells from one up to the one before another.
type realFlaw struct{ flaw, from, to, grade int }

// everyReal yields all real flaws that a lath can have.
func everyReal(l api.Lath) iter.Seq[[]realFlaw] {
	return func(yield func([]realFlaw) bool) {
		var goOn func(i int, there []realFlaw) bool
		goOn = func(i int, there []realFlaw) bool {
			if i == len(l.Flaws) {
				return yield(slices.Clone(there))
			}
			f := l.Flaws[i]
			if !f.Sure && !goOn(i+1, there) {
				return false
			}
			for from := f.From.Min; from <= f.From.Max; from++ {
				for to := f.To.Min; to <= f.To.Max; to++ {
					if !goOn(i+1, append(there, realFlaw{i, from, to, f.Grade})) {
						return false
					}
				}
			}
			return true
		}
		goOn(0, nil)
	}
}

// someReal returns real flaws that a lath can have.
func someReal(r *rand.Rand, l api.Lath) (there []realFlaw) {
	for i, f := range l.Flaws {
		if f.Sure || r.Intn(3) > 0 {
			there = append(there, realFlaw{i, within(r, f.From), within(r, f.To), f.Grade})
		}
	}
	return there
}

// unsure is how many real flaws are not sure.
func unsure(l api.Lath, there []realFlaw) (many int) {
	for _, f := range there {
		if !l.Flaws[f.flaw].Sure {
			many++
		}
	}
	return many
}

// realClass is the class of a piece, as the chapter tells it.
func realClass(there []realFlaw, at, width int) (class int) {
	for _, f := range there {
		for cell := at; cell < at+width; cell++ {
			if f.from <= cell && cell <= f.to-1 && f.grade > class {
				class = f.grade
			}
		}
	}
	return class
}

// realWorth is the worth of a plan.
func realWorth(l api.Lath, there []realFlaw, plan []int) (worth int) {
	for _, at := range plan {
		worth += l.Prices[realClass(there, at, l.Width)]
	}
	return worth
}

// tale is a small lath of which everything is counted out.
type tale struct {
	api.Lath
	reals [][]realFlaw
}

func taleOf(l api.Lath) tale { return tale{l, slices.Collect(everyReal(l))} }

// classes returns the least and the greatest class of a piece.
func (t tale) classes(at, width int) (least, most int) {
	least = math.MaxInt
	for _, there := range t.reals {
		class := realClass(there, at, width)
		least, most = min(least, class), max(most, class)
	}
	return least, most
}

// value returns what Value has to return.
func (t tale) value(plan []int) (value api.Bounds) {
	for _, at := range plan {
		least, most := t.classes(at, t.Width)
		value.Min += t.Prices[most]
		value.Max += t.Prices[least]
	}
	return value
}

// lists yields all lists of positions that are at least step apart, from one up to last, the least one first.
func lists(last, step int) iter.Seq[[]int] {
	return func(yield func([]int) bool) {
		var goOn func(l []int, from int) bool
		goOn = func(l []int, from int) bool {
			if !yield(slices.Clone(l)) {
				return false
			}
			for at := from; at <= last; at++ {
				if !goOn(append(l, at), at+step) {
					return false
				}
			}
			return true
		}
		goOn(nil, 0)
	}
}

// plans yields all plans of a lath, the least one first.
func plans(l api.Lath) iter.Seq[[]int] { return lists(l.Length-l.Width, l.Width+l.Gap) }

// best returns what Best has to return.
func (t tale) best() (best []int, worth api.Bounds) {
	values := map[int]api.Bounds{}
	for at := 0; at <= t.Length-t.Width; at++ {
		values[at] = t.value([]int{at})
	}
	for plan := range plans(t.Lath) {
		var v api.Bounds
		for _, at := range plan {
			v.Min += values[at].Min
			v.Max += values[at].Max
		}
		if v.Min > worth.Min || v.Min == worth.Min && v.Max > worth.Max {
			best, worth = plan, v
		}
	}
	return best, worth
}

// within returns a number within bounds, often one of their ends.
func within(r *rand.Rand, b api.Bounds) int {
	switch r.Intn(4) {
	case 0:
		return b.Min
	case 1:
		return b.Max
	default:
		return b.Min + r.Intn(b.Max-b.Min+1)
	}
}

// size is how great a lath can be, and how far apart the ends of its bounds.
type size struct{ length, width, gap, flaws, spread int }

func small() size { return size{11, 4, 2, 3, 2} }

func full() size {
	return size{api.MaxLath, api.MaxPunch, api.MaxGap, api.MaxFlaws, 40}
}

// somePrices returns prices, often ones that are alike or nothing.
func somePrices(r *rand.Rand) (l []int) {
	most := []int{0, 1, 2, 5, 30, api.MaxPaid}[r.Intn(6)]
	for range 1 + r.Intn(api.MaxSorts) {
		l = append(l, r.Intn(most+1))
	}
	slices.SortFunc(l, func(a, b int) int { return b - a })
	return l
}

func someFlaw(r *rand.Rand, l api.Lath, spread int) api.Flaw {
	from := r.Intn(l.Length)
	to := min(l.Length, from+1+r.Intn(spread+1))
	return api.Flaw{
		From:  bounds(max(0, from-r.Intn(spread+1)), from),
		To:    bounds(to, min(l.Length, to+r.Intn(spread+1))),
		Grade: 1 + r.Intn(len(l.Prices)-1),
		Sure:  r.Intn(2) == 0,
	}
}

func someLath(r *rand.Rand, s size) api.Lath {
	l := api.Lath{Length: 1 + r.Intn(s.length), Width: 1 + r.Intn(s.width), Gap: r.Intn(s.gap + 1), Prices: somePrices(r)}
	if len(l.Prices) > 1 {
		for range r.Intn(s.flaws + 1) {
			l.Flaws = append(l.Flaws, someFlaw(r, l, s.spread))
		}
	}
	return l
}

// somePlan returns a plan of a lath.
func somePlan(r *rand.Rand, l api.Lath) (plan []int) {
	often := 1 + r.Intn(4)
	for at := 0; at <= l.Length-l.Width; at++ {
		if r.Intn(often) == 0 {
			plan = append(plan, at)
			at += l.Width + l.Gap - 1
		}
	}
	return plan
}

// bestMin returns the Min of the best plan.
func bestMin(l api.Lath) int {
	_, worth, _ := punch.Best(l)
	return worth.Min
}
