package grade_test

import (
	"math"
	"math/bits"
	"math/rand"
	"slices"

	"sobreiro/api"
	"sobreiro/grade"
)

// often is how many panels are tried out.
const often = 3000

func bounds(low, high int) api.Bounds { return api.Bounds{Min: low, Max: high} }

func known(n int) api.Bounds { return bounds(n, n) }

func isIn(n int, b api.Bounds) bool { return b.Min <= n && n <= b.Max }

func isInside(inner, outer api.Bounds) bool { return outer.Min <= inner.Min && inner.Max <= outer.Max }

// outside returns numbers that are not from low to high.
func outside(low, high int) []int {
	return []int{low - 1, high + 1, -1000000007, 1000000007, math.MinInt, math.MaxInt}
}

// examplePanel is the panel of the chapter's examples.
func examplePanel() api.Panel {
	return api.Panel{
		Items:    3,
		Cuts:     []int{100, 200},
		Graders:  []api.Grader{{Code: "ANA", Bias: bounds(-10, 10)}, {Code: "CAM", Bias: known(0)}},
		Opinions: []api.Opinion{{Grader: 0, Item: 0, Class: 1}, {Grader: 0, Item: 1, Class: 2}, {Grader: 1, Item: 1, Class: 1}},
		Pairs:    []api.Pair{{Grader: 0, Better: 2, Worse: 1, By: 30}},
	}
}

// conflictPanel is the one with a conflict.
func conflictPanel() api.Panel {
	p := examplePanel()
	p.Pairs = append(p.Pairs, api.Pair{Grader: 1, Better: 0, Worse: 1, By: 20})
	return p
}

// changed returns the example's panel, changed.
func changed(change func(p *api.Panel)) api.Panel {
	p := examplePanel()
	change(&p)
	return p
}

func samePanel(a, b api.Panel) bool {
	return a.Items == b.Items && slices.Equal(a.Cuts, b.Cuts) && slices.Equal(a.Graders, b.Graders) && slices.Equal(a.Opinions, b.Opinions) && slices.Equal(a.Pairs, b.Pairs)
}

func copyOf(p api.Panel) api.Panel {
	p.Cuts, p.Graders, p.Opinions, p.Pairs = slices.Clone(p.Cuts), slices.Clone(p.Graders), slices.Clone(p.Opinions), slices.Clone(p.Pairs)
	return p
}

func judged(p api.Panel) int { return len(p.Opinions) + len(p.Pairs) }

// class is the number of the cuts that are not greater than a number.
func class(cuts []int, n int) int {
	return len(slices.DeleteFunc(slices.Clone(cuts), func(cut int) bool { return cut > n }))
}

// holds says whether a judgement holds, as the chapter tells it.
func holds(p api.Panel, judgement int, values, biases []int) bool {
	if judgement < len(p.Opinions) {
		o := p.Opinions[judgement]
		return class(p.Cuts, values[o.Item]+biases[o.Grader]) == o.Class
	}
	r := p.Pairs[judgement-len(p.Opinions)]
	return values[r.Better] >= values[r.Worse]+r.By
}

// isScale says whether values and biases are a scale of a panel.
func isScale(p api.Panel, values, biases []int) bool {
	if len(values) != p.Items || len(biases) != len(p.Graders) {
		return false
	}
	for _, v := range values {
		if !isIn(v, bounds(0, 200000)) {
			return false
		}
	}
	for i, b := range biases {
		if !isIn(b, p.Graders[i].Bias) {
			return false
		}
	}
	for j := range judged(p) {
		if !holds(p, j, values, biases) {
			return false
		}
	}
	return true
}

// only returns a panel with some of its judgements alone.
func only(p api.Panel, keep func(judgement int) bool) api.Panel {
	q := p
	q.Opinions, q.Pairs = nil, nil
	for i, o := range p.Opinions {
		if keep(i) {
			q.Opinions = append(q.Opinions, o)
		}
	}
	for i, r := range p.Pairs {
		if keep(len(p.Opinions) + i) {
			q.Pairs = append(q.Pairs, r)
		}
	}
	return q
}

// onlyBy returns a panel with the judgements of all graders but some.
func onlyBy(p api.Panel, left []int) api.Panel {
	return only(p, func(j int) bool { return !slices.Contains(left, judgeOf(p, j)) })
}

func judgeOf(p api.Panel, judgement int) int {
	if judgement < len(p.Opinions) {
		return p.Opinions[judgement].Grader
	}
	return p.Pairs[judgement-len(p.Opinions)].Grader
}

// never is less than anything by which two numbers of a panel can differ.
const never = math.MinInt / 4

// web tells by how much each number of a panel at least exceeds each other one: 0, the values, and then the biases turned round.
type web [][]int

// webOf goes from each number to each other one by all ways.
func webOf(p api.Panel) web {
	n := 1 + p.Items + len(p.Graders)
	w := make(web, n)
	for i := range w {
		w[i] = slices.Repeat([]int{never}, n)
		w[i][i] = 0
	}
	exceeds := func(low, high, by int) { w[low][high] = max(w[low][high], by) }
	for i := range p.Items {
		exceeds(0, 1+i, 0)
		exceeds(1+i, 0, -200000)
	}
	for i, g := range p.Graders {
		exceeds(0, 1+p.Items+i, -g.Bias.Max)
		exceeds(1+p.Items+i, 0, g.Bias.Min)
	}
	for _, o := range p.Opinions {
		value, bias := 1+o.Item, 1+p.Items+o.Grader
		if o.Class > 0 {
			exceeds(bias, value, p.Cuts[o.Class-1])
		}
		if o.Class < len(p.Cuts) {
			exceeds(value, bias, -(p.Cuts[o.Class] - 1))
		}
	}
	for _, r := range p.Pairs {
		exceeds(1+r.Worse, 1+r.Better, r.By)
	}
	for over := range w {
		for i := range w {
			for j := range w {
				if w[i][over] > never && w[over][j] > never {
					exceeds(i, j, w[i][over]+w[over][j])
				}
			}
		}
	}
	return w
}

// isScaled says whether there is a scale: no number exceeds itself.
func (w web) isScaled() bool {
	for i := range w {
		if w[i][i] > 0 {
			return false
		}
	}
	return true
}

// limits returns the bounds of all values and biases, if there is a scale.
func (w web) limits(items int) (values, biases []api.Bounds) {
	for i := 1; i < len(w); i++ {
		if i <= items {
			values = append(values, bounds(w[0][i], -w[i][0]))
		} else {
			biases = append(biases, bounds(w[i][0], -w[0][i]))
		}
	}
	return values, biases
}

// fewest returns, of all sets of numbers below many that are good, the fewest numbers, of several the least list. It tries all sets.
func fewest(many int, good func(l []int) bool) (best []int, found bool) {
	for set := range uint(1) << many {
		if found && bits.OnesCount(set) > len(best) {
			continue
		}
		var l []int
		for n := range many {
			if set>>n&1 == 1 {
				l = append(l, n)
			}
		}
		if (!found || len(l) < len(best) || slices.Compare(l, best) < 0) && good(l) {
			best, found = l, true
		}
	}
	return best, found
}

// conflictOf returns what Conflict has to return.
func conflictOf(p api.Panel) (judgements []int, found bool) {
	return fewest(judged(p), func(l []int) bool {
		return !webOf(only(p, func(j int) bool { return slices.Contains(l, j) })).isScaled()
	})
}

// leaveOf returns what Leave has to return.
func leaveOf(p api.Panel) []int {
	l, _ := fewest(len(p.Graders), func(l []int) bool { return webOf(onlyBy(p, l)).isScaled() })
	return l
}

var codes = []string{"ANA", "CAM", "B-1", "Z", "A2345678"}

// within returns a number within bounds, often one of their ends.
func within(r *rand.Rand, b api.Bounds) int {
	switch r.Intn(4) {
	case 0:
		return b.Min
	case 1:
		return b.Max
	default:
		return b.Min + r.Intn(b.Max-b.Min+1)
	}
}

// someNumber returns a number from 0 to MaxScale: near to 0, near to MaxScale, or any. Width is how near.
func someNumber(r *rand.Rand, width int) int {
	switch r.Intn(3) {
	case 0:
		return r.Intn(width + 1)
	case 1:
		return api.MaxScale - r.Intn(width+1)
	default:
		return r.Intn(min(api.MaxScale, 20*width) + 1)
	}
}

// somePanelWithout returns a panel without judgements.
func somePanelWithout(r *rand.Rand, items, graders, width int) api.Panel {
	p := api.Panel{Items: items}
	for range r.Intn(api.MaxCuts + 1) {
		p.Cuts = append(p.Cuts, max(1, someNumber(r, width)))
	}
	slices.Sort(p.Cuts)
	p.Cuts = slices.Compact(p.Cuts)
	for i := range graders {
		a, b := r.Intn(2*width+1)-width, r.Intn(2*width+1)-width
		if r.Intn(3) == 0 {
			b = a
		}
		a, b = max(-api.MaxBias, min(a, api.MaxBias)), max(-api.MaxBias, min(b, api.MaxBias))
		p.Graders = append(p.Graders, api.Grader{Code: codes[i], Bias: bounds(min(a, b), max(a, b))})
	}
	return p
}

// truth is what the values and the biases of a panel really are.
type truth struct{ values, biases []int }

func someTruth(r *rand.Rand, p api.Panel, width int) (t truth) {
	for range p.Items {
		n := someNumber(r, width)
		if len(p.Cuts) > 0 && r.Intn(2) == 0 {
			n = max(0, min(p.Cuts[r.Intn(len(p.Cuts))]+r.Intn(2*width+1)-width, api.MaxScale))
		}
		t.values = append(t.values, n)
	}
	for _, g := range p.Graders {
		t.biases = append(t.biases, within(r, g.Bias))
	}
	return t
}

// judge adds judgements to a panel, up to so many, which are as they really are.
func (t truth) judge(r *rand.Rand, p *api.Panel, many int) {
	if p.Items == 0 || len(p.Graders) == 0 {
		return
	}
	for range 3 * many {
		if judged(*p) >= many {
			return
		}
		grader, a, b := r.Intn(len(p.Graders)), r.Intn(p.Items), r.Intn(p.Items)
		if t.values[a] < t.values[b] {
			a, b = b, a
		}
		more := t.values[a] - t.values[b]
		switch {
		case r.Intn(2) == 0 && !hasOpinion(*p, grader, a):
			p.Opinions = append(p.Opinions, api.Opinion{Grader: grader, Item: a, Class: class(p.Cuts, t.values[a]+t.biases[grader])})
		case a != b:
			p.Pairs = append(p.Pairs, api.Pair{Grader: grader, Better: a, Worse: b, By: within(r, bounds(0, more))})
		}
	}
}

func hasOpinion(p api.Panel, grader, item int) bool {
	return slices.ContainsFunc(p.Opinions, func(o api.Opinion) bool { return o.Grader == grader && o.Item == item })
}

// spoil changes some of the judgements, a little or wholly, so that they may contradict each other.
func spoil(r *rand.Rand, p *api.Panel, width int) {
	for range r.Intn(4) {
		if n := len(p.Opinions); n > 0 && r.Intn(2) == 0 {
			p.Opinions[r.Intn(n)].Class = r.Intn(len(p.Cuts) + 1)
		} else if n := len(p.Pairs); n > 0 {
			c := &p.Pairs[r.Intn(n)]
			switch r.Intn(3) {
			case 0:
				c.Better, c.Worse = c.Worse, c.Better
			case 1:
				c.By = someNumber(r, width)
			default:
				c.By = max(0, min(c.By+r.Intn(2*width+1)-width, api.MaxScale))
			}
		}
	}
}

// realPanel returns a panel whose judgements are as they really are.
func realPanel(r *rand.Rand, most int) (api.Panel, truth) {
	width := []int{1, 3, 20, 1000, api.MaxBias}[r.Intn(5)]
	p := somePanelWithout(r, r.Intn(api.MaxItems+1), r.Intn(api.MaxGraders+1), width)
	if r.Intn(2) == 0 { // few items, so that much is said of each
		p.Items = min(p.Items, 1+r.Intn(3))
	}
	t := someTruth(r, p, width)
	t.judge(r, &p, r.Intn(most+1))
	return p, t
}

// somePanel returns a panel with at most so many judgements, which may contradict each other.
func somePanel(r *rand.Rand, most int) api.Panel {
	p, _ := realPanel(r, most)
	spoil(r, &p, []int{1, 3, 1000}[r.Intn(3)])
	return p
}

// tensePanel returns a panel of which much is said that hardly can be so, or cannot: all values are near to each other, and to cut points.
func tensePanel(r *rand.Rand, most int) api.Panel {
	p := api.Panel{Items: 1 + r.Intn(4)}
	for cut := 1; len(p.Cuts) < 2+r.Intn(4) && len(p.Cuts) < api.MaxCuts; {
		cut += 1 + r.Intn(3)
		p.Cuts = append(p.Cuts, cut)
	}
	for i := range 1 + r.Intn(api.MaxGraders) {
		low := r.Intn(3) - 1
		p.Graders = append(p.Graders, api.Grader{Code: codes[i], Bias: bounds(low, low+r.Intn(3))})
	}
	real := truth{}
	for range p.Items {
		real.values = append(real.values, r.Intn(10))
	}
	for _, g := range p.Graders {
		real.biases = append(real.biases, within(r, g.Bias))
	}
	real.judge(r, &p, most)
	for range 1 + r.Intn(3) {
		if n := len(p.Pairs); n > 0 {
			p.Pairs[r.Intn(n)].By += 1 + r.Intn(4)
		}
		if n := len(p.Opinions); n > 0 && r.Intn(2) == 0 {
			o := &p.Opinions[r.Intn(n)]
			o.Class = max(0, min(o.Class+r.Intn(3)-1, len(p.Cuts)))
		}
	}
	return p
}

// isPossible says whether a panel has a scale.
func isPossible(p api.Panel) bool {
	_, _, found, e := grade.Scale(p)
	return found && e == api.OK
}
