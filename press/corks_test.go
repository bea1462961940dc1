package press_test

import (
	"iter"
	"math"
	"math/rand"
	"slices"

	"sobreiro/api"
)

// often is how many presses, recipes and assemblies are tried out.
const often = 2000

func bounds(low, high int) api.Bounds { return api.Bounds{Min: low, Max: high} }

func known(n int) api.Bounds { return bounds(n, n) }

func isIn(n int, b api.Bounds) bool { return b.Min <= n && n <= b.Max }

// outside returns numbers that are not from low to high.
func outside(low, high int) []int {
	return []int{low - 1, high + 1, -1000000007, 1000000007, math.MinInt, math.MaxInt}
}

// notBounds returns what are no bounds from low to high.
func notBounds(low, high int) []api.Bounds {
	return []api.Bounds{
		bounds(low-1, high), bounds(low, high+1), known(low - 1), known(high + 1), bounds(high, low), bounds(low+1, low),
		bounds(math.MinInt, high), bounds(low, math.MaxInt), bounds(math.MaxInt, math.MinInt), bounds(math.MinInt, math.MaxInt),
	}
}

// question is what Seal is asked with.
type question struct {
	p api.Press
	c api.Cork
	n api.Neck
}

// exampleQuestion is the first one of the chapter's examples.
func exampleQuestion() question {
	return question{
		api.Press{Jaw: 1600, Crush: 600, Grip: 100, Limit: 900, Steps: []api.Step{
			{From: 0, Springs: bounds(900, 950), Breathes: bounds(2000, 3000)},
			{From: 200, Springs: bounds(930, 980), Breathes: bounds(1500, 1900)},
		}},
		api.Cork{Width: bounds(2400, 2450), Length: bounds(4400, 4500), Density: bounds(180, 195)},
		api.Neck{Bore: bounds(1850, 1900), Depth: 5000},
	}
}

// changed returns the example's question, changed.
func changed(change func(q *question)) question {
	q := exampleQuestion()
	change(&q)
	return q
}

func (q question) copy() question {
	q.p.Steps = slices.Clone(q.p.Steps)
	return q
}

func samePress(a, b api.Press) bool {
	return a.Jaw == b.Jaw && a.Crush == b.Crush && a.Grip == b.Grip && a.Limit == b.Limit && slices.Equal(a.Steps, b.Steps)
}

// ruleNames are all rules, in their order.
func ruleNames() []api.SealRule {
	return []api.SealRule{api.PsCrush, api.PsLoose, api.PsLong, api.PsBreath}
}

// realCork is a cork in a neck as it really is.
type realCork struct{ width, length, density, spring, breath, bore int }

// keeps says whether a rule is really kept, as the chapter tells it.
func (q question) keeps(rule api.SealRule, x realCork) bool {
	switch rule {
	case api.PsCrush:
		return q.p.Jaw*1000 >= q.p.Crush*x.width
	case api.PsLoose:
		return x.width*x.spring/1000 >= x.bore+q.p.Grip
	case api.PsLong:
		return x.length <= q.n.Depth
	default:
		passes := x.breath * 1000 / x.length
		if passes*x.length != x.breath*1000 {
			passes++
		}
		return passes <= q.p.Limit
	}
}

// seals says whether all rules are really kept.
func (q question) seals(x realCork) bool {
	return !slices.ContainsFunc(ruleNames(), func(rule api.SealRule) bool { return !q.keeps(rule, x) })
}

// stepOf is the last step whose From is not above a density.
func (q question) stepOf(density int) (step int) {
	for i, s := range q.p.Steps {
		if s.From <= density {
			step = i
		}
	}
	return step
}

// everyReal yields all that a cork of a density can be.
func (q question) everyReal(density int) iter.Seq[realCork] {
	s := q.p.Steps[q.stepOf(density)]
	return func(yield func(realCork) bool) {
		for w := q.c.Width.Min; w <= q.c.Width.Max; w++ {
			for l := q.c.Length.Min; l <= q.c.Length.Max; l++ {
				for spring := s.Springs.Min; spring <= s.Springs.Max; spring++ {
					for breath := s.Breathes.Min; breath <= s.Breathes.Max; breath++ {
						for bore := q.n.Bore.Min; bore <= q.n.Bore.Max; bore++ {
							if !yield(realCork{w, l, density, spring, breath, bore}) {
								return
							}
						}
					}
				}
			}
		}
	}
}

// told is a verdict and its rule.
type told struct {
	verdict api.Verdict
	rule    api.SealRule
}

// tellStep returns the verdict of a density's step, counted out.
func (q question) tellStep(density int) told {
	broken := map[api.SealRule]bool{}
	can := false
	for x := range q.everyReal(density) {
		for _, rule := range ruleNames() {
			broken[rule] = broken[rule] || !q.keeps(rule, x)
		}
		can = can || q.seals(x)
	}
	for _, rule := range ruleNames() {
		switch {
		case broken[rule] && can:
			return told{api.VdUnknown, rule}
		case broken[rule]:
			return told{api.VdNever, rule}
		}
	}
	return told{api.VdAlways, api.PsNone}
}

// reckonStep returns the verdict of a density's step without counting, for great bounds.
func (q question) reckonStep(density int) told {
	s := q.p.Steps[q.stepOf(density)]
	worst := []bool{
		q.keeps(api.PsCrush, realCork{width: q.c.Width.Max}),
		q.keeps(api.PsLoose, realCork{width: q.c.Width.Min, spring: s.Springs.Min, bore: q.n.Bore.Max}),
		q.keeps(api.PsLong, realCork{length: q.c.Length.Max}),
		q.keeps(api.PsBreath, realCork{length: q.c.Length.Min, breath: s.Breathes.Max}),
	}
	first := slices.Index(worst, false)
	width := min(q.c.Width.Max, q.p.Jaw*1000/q.p.Crush) // the widest that is not crushed
	length := min(q.c.Length.Max, q.n.Depth)            // the longest that is not too long
	switch {
	case first < 0:
		return told{api.VdAlways, api.PsNone}
	case width >= q.c.Width.Min && length >= q.c.Length.Min && q.seals(realCork{width, length, density, s.Springs.Max, s.Breathes.Min, q.n.Bore.Min}):
		return told{api.VdUnknown, ruleNames()[first]}
	default:
		return told{api.VdNever, ruleNames()[first]}
	}
}

// join returns the verdict of a cork, density by density.
func (q question) join(of func(density int) told) told {
	verdict, rule := of(q.c.Density.Min).verdict, api.PsNone
	last := -1
	for density := q.c.Density.Min; density <= q.c.Density.Max; density++ {
		if q.stepOf(density) == last {
			continue
		}
		last = q.stepOf(density)
		step := of(density)
		if step.verdict != verdict {
			verdict = api.VdUnknown
		}
		if rule == api.PsNone {
			rule = step.rule
		}
	}
	return told{verdict, rule}
}

// within returns a number within bounds, often one of their ends.
func within(r *rand.Rand, b api.Bounds) int {
	switch r.Intn(4) {
	case 0:
		return b.Min
	case 1:
		return b.Max
	default:
		return b.Min + r.Intn(b.Max-b.Min+1)
	}
}

// held returns a number that is brought within low and high.
func held(n, low, high int) int { return min(high, max(low, n)) }

// around returns bounds that have a number in or near them, and are from low to high.
func around(r *rand.Rand, n, spread, low, high int) api.Bounds {
	from := held(n-r.Intn(spread+1)+r.Intn(3)-1, low, high)
	return bounds(from, held(from+r.Intn(spread+1), low, high))
}

// near returns a number near another one, from low to high.
func near(r *rand.Rand, n, far, low, high int) int {
	return held(n+r.Intn(2*far+1)-far, low, high)
}

// someSmall returns a question of which all real corks can be counted out: numbers that lie round those of a cork that just seals.
func someSmall(r *rand.Rand) question {
	width := 1 + r.Intn([]int{20, 400, api.MaxWidth}[r.Intn(3)])
	length := 1 + r.Intn([]int{6, 40, api.MaxLength}[r.Intn(3)])
	spring, breath := r.Intn(1001), r.Intn([]int{4, 100, 2000}[r.Intn(3)])
	if r.Intn(2) == 0 {
		spring = 1000 - r.Intn(20)
	}
	holds := width * spring / 1000
	grip := r.Intn(holds + 1)
	var q question
	q.p.Crush = 1 + r.Intn(1000)
	q.p.Jaw = near(r, q.p.Crush*width/1000, 2, 1, api.MaxWidth)
	q.p.Grip = grip
	q.p.Limit = near(r, breath*1000/length, []int{0, 2, 100}[r.Intn(3)], 0, api.MaxOxygen)
	q.c.Width = around(r, width, 3, 1, api.MaxWidth)
	q.c.Length = around(r, length, 3, 1, api.MaxLength)
	q.n.Bore = around(r, max(0, holds-grip), 2, 0, api.MaxWidth)
	q.n.Depth = near(r, length, 3, 0, api.MaxLength)
	from := 0
	for range 1 + r.Intn(3) {
		q.p.Steps = append(q.p.Steps, api.Step{From: from, Springs: around(r, spring, 2, 0, 1000), Breathes: around(r, breath, 2, 0, api.MaxOxygen)})
		from += 1 + r.Intn(3)
	}
	q.c.Density = around(r, r.Intn(from+2), 3, 0, api.MaxDensity)
	return eased(r, q)
}

// eased often makes some of the rules easy to keep.
func eased(r *rand.Rand, q question) question {
	if r.Intn(2) == 0 {
		q.p.Crush = 1 + r.Intn(3)
	}
	if r.Intn(2) == 0 {
		q.p.Grip /= 2
	}
	if r.Intn(2) == 0 {
		q.n.Depth = api.MaxLength
	}
	if r.Intn(2) == 0 {
		q.p.Limit = api.MaxOxygen
	}
	return q
}

// someGreat returns a question with great bounds.
func someGreat(r *rand.Rand) question {
	some := func(low, high, spread int) api.Bounds {
		from := low + r.Intn(high-low+1)
		return bounds(from, min(high, from+r.Intn(spread+1)))
	}
	var q question
	q.c = api.Cork{Width: some(1, api.MaxWidth, api.MaxSpread), Length: some(1, api.MaxLength, 1+r.Intn(api.MaxLength)), Density: some(0, api.MaxDensity, 1+r.Intn(api.MaxDensity))}
	w, l := within(r, q.c.Width), within(r, q.c.Length)
	q.p.Crush = 1 + r.Intn(1000)
	q.p.Jaw = near(r, q.p.Crush*w/1000, 60, 1, api.MaxWidth)
	q.p.Grip = r.Intn(1 + w/2)
	q.p.Limit = r.Intn(api.MaxOxygen + 1)
	q.n = api.Neck{Bore: some(0, w/2, 1+r.Intn(300)), Depth: near(r, l, 500, 0, api.MaxLength)}
	for i := range 1 + r.Intn(api.MaxSteps) {
		from := 0
		if i > 0 {
			from = q.p.Steps[i-1].From + 1 + r.Intn(190)
		}
		if from > api.MaxDensity {
			break
		}
		springs := some(0, 1000, 1+r.Intn(200))
		if r.Intn(2) == 0 {
			springs = some(800, 1000, 1+r.Intn(200))
		}
		breathes := some(0, min(api.MaxOxygen, q.p.Limit*l/1000), 1+r.Intn(4000))
		q.p.Steps = append(q.p.Steps, api.Step{From: from, Springs: springs, Breathes: breathes})
	}
	return eased(r, q)
}

// someReal returns a cork in a neck that can really be.
func (q question) someReal(r *rand.Rand) realCork {
	density := within(r, q.c.Density)
	s := q.p.Steps[q.stepOf(density)]
	return realCork{within(r, q.c.Width), within(r, q.c.Length), density, within(r, s.Springs), within(r, s.Breathes), within(r, q.n.Bore)}
}
