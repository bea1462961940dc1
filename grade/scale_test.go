package grade_test

import (
	"math/rand"
	"slices"
	"testing"

	"sobreiro/api"
	"sobreiro/grade"
)

// scaled checks what Scale, Bounds and Classes return of a panel that has a scale, or that has none.
func scaled(t *testing.T, name any, p api.Panel, found bool, values, biases []api.Bounds) {
	t.Helper()
	var least, greatest []int
	for _, b := range values {
		least = append(least, b.Min)
	}
	for _, b := range biases {
		greatest = append(greatest, b.Max)
	}
	v, b, is, e := grade.Scale(p)
	if !slices.Equal(v, least) || !slices.Equal(b, greatest) || is != found || e != api.OK {
		t.Fatal(name, p, "Scale", v, b, is, e, "not", least, greatest, found)
	}
	against := api.ErrAgainst
	if found {
		against = api.OK
	}
	l, m, e := grade.Bounds(p)
	if !slices.Equal(l, values) || !slices.Equal(m, biases) || e != against {
		t.Fatal(name, p, "Bounds", l, m, e, "not", values, biases, against)
	}
	for item := range p.Items {
		low, high := 0, 0
		if found {
			low, high = class(p.Cuts, values[item].Min), class(p.Cuts, values[item].Max)
		}
		if a, b, e := grade.Classes(p, item); a != low || b != high || e != against {
			t.Fatal(name, p, "Classes", item, a, b, e, "not", low, high, against)
		}
	}
}

// P6.1, P6.2: the examples, and small panels.
func TestScales(t *testing.T) {
	free, most := bounds(0, 200000), 200000
	for i, x := range []struct {
		p              api.Panel
		values, biases []api.Bounds
	}{
		{examplePanel(), []api.Bounds{bounds(90, 198), bounds(190, 199), bounds(220, most)}, []api.Bounds{bounds(1, 10), known(0)}},
		{api.Panel{}, nil, nil},
		{api.Panel{Items: 2, Graders: []api.Grader{{Code: "A", Bias: bounds(-20000, 20000)}}}, []api.Bounds{free, free}, []api.Bounds{bounds(-20000, 20000)}},
		// Without cuts there is one class, which all numbers have.
		{api.Panel{Items: 1, Graders: []api.Grader{{Code: "A", Bias: bounds(-5, 7)}}, Opinions: []api.Opinion{{}}}, []api.Bounds{free}, []api.Bounds{bounds(-5, 7)}},
		// The least and the greatest class, with values that do not go beyond 0 and MaxScale.
		{changed(func(p *api.Panel) {
			p.Opinions, p.Pairs = []api.Opinion{{Grader: 0, Item: 0, Class: 0}, {Grader: 1, Item: 1, Class: 2}}, nil
		}), []api.Bounds{bounds(0, 109), bounds(200, most), free}, []api.Bounds{bounds(-10, 10), known(0)}},
		{changed(func(p *api.Panel) {
			p.Cuts, p.Graders[0].Bias, p.Graders[1].Bias = []int{1, 200000}, bounds(-20000, 20000), bounds(-20000, 20000)
			p.Opinions, p.Pairs = []api.Opinion{{Grader: 0, Item: 0, Class: 0}, {Grader: 1, Item: 1, Class: 2}}, nil
		}), []api.Bounds{bounds(0, 20000), bounds(180000, most), free}, []api.Bounds{bounds(-20000, 0), bounds(0, 20000)}},
		// A value plus a bias can be below 0 and above MaxScale.
		{changed(func(p *api.Panel) {
			p.Graders[0].Bias = bounds(-10, -5)
			p.Opinions, p.Pairs = []api.Opinion{{Grader: 0, Item: 0, Class: 0}}, []api.Pair{{Grader: 1, Better: 1, Worse: 0, By: 200000}}
		}), []api.Bounds{known(0), known(most), free}, []api.Bounds{bounds(-10, -5), known(0)}},
		{changed(func(p *api.Panel) {
			p.Cuts, p.Graders[0].Bias = []int{200000}, bounds(1, 20000)
			p.Opinions, p.Pairs = []api.Opinion{{Grader: 0, Item: 0, Class: 1}}, nil
		}), []api.Bounds{bounds(180000, most), free, free}, []api.Bounds{bounds(1, 20000), known(0)}},
		// What is said of two items, by graders who know nothing else.
		{changed(func(p *api.Panel) {
			p.Opinions = nil
			p.Pairs = []api.Pair{{Grader: 0, Better: 0, Worse: 1, By: 70}, {Grader: 1, Better: 1, Worse: 2, By: 0}}
		}), []api.Bounds{bounds(70, most), bounds(0, most-70), bounds(0, most-70)}, []api.Bounds{bounds(-10, 10), known(0)}},
		// Equal both ways.
		{changed(func(p *api.Panel) {
			p.Opinions = []api.Opinion{{Grader: 1, Item: 0, Class: 1}}
			p.Pairs = []api.Pair{{Grader: 0, Better: 0, Worse: 1}, {Grader: 0, Better: 1, Worse: 0}}
		}), []api.Bounds{bounds(100, 199), bounds(100, 199), free}, []api.Bounds{bounds(-10, 10), known(0)}},
		// A bias is known from what others say of the item.
		{changed(func(p *api.Panel) {
			p.Cuts = []int{100, 101}
			p.Opinions, p.Pairs = []api.Opinion{{Grader: 1, Item: 0, Class: 1}, {Grader: 0, Item: 0, Class: 1}}, nil
		}), []api.Bounds{known(100), free, free}, []api.Bounds{known(0), known(0)}},
	} {
		scaled(t, i, x.p, true, x.values, x.biases)
	}
	for i, p := range []api.Panel{
		conflictPanel(),
		changed(func(p *api.Panel) { p.Opinions[0].Class, p.Graders[0].Bias = 0, bounds(100, 200) }),
		changed(func(p *api.Panel) { p.Cuts[1], p.Graders[0].Bias = 200000, bounds(-10, -1) }),
		changed(func(p *api.Panel) {
			p.Pairs = []api.Pair{{Grader: 0, Better: 0, Worse: 1, By: 100000}, {Grader: 0, Better: 1, Worse: 2, By: 100001}}
		}),
		changed(func(p *api.Panel) {
			p.Pairs = []api.Pair{{Grader: 0, Better: 0, Worse: 1, By: 0}, {Grader: 1, Better: 1, Worse: 0, By: 1}}
		}),
	} {
		scaled(t, i, p, false, nil, nil)
	}
}

// P6.2: the classes of the examples, and at the cut points.
func TestClasses(t *testing.T) {
	one := func(cut, bias, class int) api.Panel {
		return api.Panel{Items: 1, Cuts: []int{cut, cut + 100}, Graders: []api.Grader{{Code: "A", Bias: known(bias)}}, Opinions: []api.Opinion{{Class: class}}}
	}
	for i, x := range []struct {
		p           api.Panel
		item        int
		least, most int
		e           api.Errno
	}{
		{examplePanel(), 0, 0, 1, api.OK},
		{examplePanel(), 1, 1, 1, api.OK},
		{examplePanel(), 2, 2, 2, api.OK},
		{examplePanel(), 3, 0, 0, api.ErrMissing},
		{examplePanel(), -1, 0, 0, api.ErrMissing},
		{conflictPanel(), 0, 0, 0, api.ErrAgainst},
		{conflictPanel(), 3, 0, 0, api.ErrMissing},
		{api.Panel{}, 0, 0, 0, api.ErrMissing},
		{one(50, 0, 1), 0, 1, 1, api.OK},
		{one(50, 1, 1), 0, 0, 1, api.OK},
		{one(50, -1, 1), 0, 1, 2, api.OK},
		{one(50, 0, 0), 0, 0, 0, api.OK},
		{one(50, -1, 0), 0, 0, 1, api.OK},
		{one(50, 1, 2), 0, 1, 2, api.OK},
	} {
		if a, b, e := grade.Classes(x.p, x.item); a != x.least || b != x.most || e != x.e {
			t.Error(i, a, b, e)
		}
	}
}

// likeWeb checks what is said of a panel against the ways between all its numbers.
func likeWeb(t *testing.T, name any, p api.Panel) (found bool) {
	t.Helper()
	w := webOf(p)
	if !w.isScaled() {
		scaled(t, name, p, false, nil, nil)
		return false
	}
	values, biases := w.limits(p.Items)
	scaled(t, name, p, true, values, biases)
	return true
}

// P6.1, P6.2: panels of all sizes, compared.
func TestScalesOfAnyPanel(t *testing.T) {
	r := rand.New(rand.NewSource(1))
	found := 0
	for i := range 3 * often {
		p := somePanel(r, api.MaxJudged)
		if e := grade.Check(p); e != api.OK {
			t.Fatal(p, e)
		}
		if likeWeb(t, i, p) {
			found++
		}
	}
	if found < often || found > 3*often-often/3 {
		t.Error("too few or too many panels have a scale", found)
	}
}

// smallPanel returns a panel whose numbers are so near to 0 and to MaxScale that the ends of all bounds are within 14 of these.
func smallPanel(r *rand.Rand) api.Panel {
	small := func(most int) int {
		n := r.Intn(most + 1)
		if r.Intn(3) == 0 {
			return api.MaxScale - n
		}
		return n
	}
	p := api.Panel{Items: 1 + r.Intn(3)}
	for range r.Intn(4) {
		p.Cuts = append(p.Cuts, max(1, small(5)))
	}
	slices.Sort(p.Cuts)
	p.Cuts = slices.Compact(p.Cuts)
	for i := range 1 + r.Intn(2) {
		low := r.Intn(5) - 2
		p.Graders = append(p.Graders, api.Grader{Code: codes[i], Bias: bounds(low, min(2, low+r.Intn(3)))})
	}
	for range r.Intn(7) {
		grader, a, b := r.Intn(len(p.Graders)), r.Intn(p.Items), r.Intn(p.Items)
		if a != b && r.Intn(3) == 0 {
			p.Pairs = append(p.Pairs, api.Pair{Grader: grader, Better: a, Worse: b, By: small(2)})
		} else if !hasOpinion(p, grader, a) {
			p.Opinions = append(p.Opinions, api.Opinion{Grader: grader, Item: a, Class: r.Intn(len(p.Cuts) + 1)})
		}
	}
	return p
}

// counter goes through scales and keeps the ends of what there is.
type counter struct {
	p              api.Panel
	found          bool
	values, biases []api.Bounds
}

// add keeps a scale.
func (c *counter) add(values, biases []int) {
	widen := func(l []api.Bounds, n []int) []api.Bounds {
		for i, x := range n {
			if !c.found {
				l = append(l, known(x))
			} else {
				l[i] = bounds(min(l[i].Min, x), max(l[i].Max, x))
			}
		}
		return l
	}
	c.values, c.biases = widen(c.values, values), widen(c.biases, biases)
	c.found = true
}

// count goes on with each value of the next item, when all biases are there.
func (c *counter) count(values, biases []int) {
	for j := range judged(c.p) {
		if c.isComplete(j, len(values)) && !holds(c.p, j, values, biases) {
			return
		}
	}
	if len(values) == c.p.Items {
		c.add(values, biases)
		return
	}
	for n := range 15 {
		c.count(append(values, n), biases)
		c.count(append(values, api.MaxScale-n), biases)
	}
}

// isComplete says whether all values of a judgement are among the first ones.
func (c *counter) isComplete(j, many int) bool {
	if j < len(c.p.Opinions) {
		return c.p.Opinions[j].Item < many
	}
	r := c.p.Pairs[j-len(c.p.Opinions)]
	return max(r.Better, r.Worse) < many
}

// countBiases goes on with each bias of the next grader.
func (c *counter) countBiases(biases []int) {
	if len(biases) == len(c.p.Graders) {
		c.count(nil, biases)
		return
	}
	b := c.p.Graders[len(biases)].Bias
	for n := b.Min; n <= b.Max; n++ {
		c.countBiases(append(biases, n))
	}
}

// P6.1, P6.2: small panels, all of whose scales near 0 and MaxScale are counted out.
func TestAllScales(t *testing.T) {
	r := rand.New(rand.NewSource(2))
	found := 0
	for i := range 1500 {
		c := counter{p: smallPanel(r)}
		c.countBiases(nil)
		scaled(t, i, c.p, c.found, c.values, c.biases)
		if c.found {
			found++
		}
	}
	if found < 400 || found > 1300 {
		t.Error("too few or too many panels have a scale", found)
	}
}

// P6.6, P0.2: what is real lies in its bounds, and nothing contradicts.
func TestReal(t *testing.T) {
	r := rand.New(rand.NewSource(3))
	for range 5 * often {
		p, real := realPanel(r, api.MaxJudged)
		if !isScale(p, real.values, real.biases) {
			t.Fatal("what is real is no scale", p, real)
		}
		values, biases, e := grade.Bounds(p)
		if e != api.OK || !isPossible(p) {
			t.Fatal(p, real, e)
		}
		for i, v := range real.values {
			least, most, e := grade.Classes(p, i)
			if !isIn(v, values[i]) || !isIn(class(p.Cuts, v), bounds(least, most)) || e != api.OK {
				t.Fatal(p, real, i, values, least, most, e)
			}
		}
		for i, b := range real.biases {
			if !isIn(b, biases[i]) {
				t.Fatal(p, real, i, biases)
			}
		}
		if l, found, e := grade.Conflict(p); len(l) > 0 || found || e != api.OK {
			t.Fatal(p, real, l, e)
		}
		if l, e := grade.Leave(p); len(l) > 0 || e != api.OK {
			t.Fatal(p, real, l, e)
		}
	}
}

// P6.8: the least values and the greatest biases together are a scale; so are the greatest values and the least biases.
func TestEndsAreScales(t *testing.T) {
	r := rand.New(rand.NewSource(4))
	for range 3 * often {
		p := somePanel(r, api.MaxJudged)
		values, biases, found, e := grade.Scale(p)
		if e != api.OK || found != isScale(p, values, biases) && (found || p.Items+len(p.Graders) > 0) {
			t.Fatal(p, values, biases, found, e)
		}
		if !found {
			continue
		}
		l, m, e := grade.Bounds(p)
		for i, b := range l {
			values[i] = b.Max
		}
		for i, b := range m {
			biases[i] = b.Min
		}
		if e != api.OK || !isScale(p, values, biases) {
			t.Fatal(p, l, m, e)
		}
	}
}

// P6.8: one more judgement never widens bounds.
func TestMoreJudgements(t *testing.T) {
	r := rand.New(rand.NewSource(5))
	compared := 0
	for range 3 * often {
		p := somePanel(r, api.MaxJudged)
		if judged(p) == 0 {
			continue
		}
		last := r.Intn(judged(p))
		less := only(p, func(j int) bool { return j != last })
		values, biases, e := grade.Bounds(less)
		more, others, f := grade.Bounds(p)
		if f == api.ErrAgainst {
			continue
		}
		compared++
		if e != api.OK || f != api.OK {
			t.Fatal(p, less, e, f)
		}
		for i := range values {
			if !isInside(more[i], values[i]) {
				t.Fatal(p, less, i, more, values)
			}
		}
		for i := range biases {
			if !isInside(others[i], biases[i]) {
				t.Fatal(p, less, i, others, biases)
			}
		}
	}
	if compared < often {
		t.Error("too few were compared", compared)
	}
}

// P6.8: the order of judgements does not matter.
func TestOrderOfJudgements(t *testing.T) {
	r := rand.New(rand.NewSource(6))
	for i := range often {
		p := somePanel(r, 9)
		q := copyOf(p)
		r.Shuffle(len(q.Opinions), func(a, b int) { q.Opinions[a], q.Opinions[b] = q.Opinions[b], q.Opinions[a] })
		r.Shuffle(len(q.Pairs), func(a, b int) { q.Pairs[a], q.Pairs[b] = q.Pairs[b], q.Pairs[a] })
		values, biases, _ := grade.Bounds(p)
		scaled(t, i, q, isPossible(p), values, biases)
		l, found, _ := grade.Conflict(p)
		m, is, _ := grade.Conflict(q)
		if len(l) != len(m) || found != is {
			t.Fatal(p, q, l, m)
		}
		left, _ := grade.Leave(p)
		if others, _ := grade.Leave(q); !slices.Equal(others, left) {
			t.Fatal(p, q, left, others)
		}
		for a := range p.Graders {
			g, _ := grade.Agree(p, a, 0)
			if h, _ := grade.Agree(q, a, 0); g != h {
				t.Fatal(p, q, a, g, h)
			}
		}
	}
}
