package grade_test

import (
	"math"
	"math/rand"
	"slices"
	"strings"
	"testing"

	"sobreiro/api"
	"sobreiro/grade"
)

// fullPanel has as much of everything as a panel can have, at the ends of all ranges.
func fullPanel() api.Panel {
	p := api.Panel{Items: 10, Cuts: []int{1, 2, 3, 199999, 200000}}
	for _, code := range codes {
		p.Graders = append(p.Graders, api.Grader{Code: code, Bias: bounds(-20000, 20000)})
	}
	for i := range 6 {
		p.Opinions = append(p.Opinions, api.Opinion{Grader: i % 5, Item: 9 - i, Class: i % 6})
		p.Pairs = append(p.Pairs, api.Pair{Grader: 4, Better: i, Worse: 9 - i, By: 40000 * (i % 6)})
	}
	return p
}

// P6.1: what is within its range, at its ends too, is valid.
func TestChecksAccept(t *testing.T) {
	for i, p := range []api.Panel{
		examplePanel(), conflictPanel(), fullPanel(), {},
		{Items: 10}, {Cuts: []int{200000}}, {Cuts: []int{1, 200000}},
		{Graders: []api.Grader{{Code: "A", Bias: known(20000)}, {Code: "AA", Bias: known(-20000)}}},
		// What contradicts has no error; nor has what is said twice in pairs, or by another grader.
		changed(func(p *api.Panel) { p.Pairs = append(p.Pairs, p.Pairs[0], p.Pairs[0]) }),
		changed(func(p *api.Panel) { p.Pairs[0].By = 200000 }),
		changed(func(p *api.Panel) { p.Opinions[2].Item, p.Opinions[2].Class = 0, 0 }),
		{Items: 1, Graders: []api.Grader{{Code: "A"}}, Opinions: []api.Opinion{{}}},
		{Items: 2, Graders: []api.Grader{{Code: "A"}}, Pairs: slices.Repeat([]api.Pair{{Better: 1}}, 12)},
	} {
		if e := grade.Check(p); e != api.OK {
			t.Error(i, e)
		}
		if _, _, _, e := grade.Scale(p); e != api.OK {
			t.Error(i, e)
		}
	}
}

// P6.1, R1: lists are checked one after the other, and element by element.
func TestListErrors(t *testing.T) {
	for i, x := range []struct {
		change func(p *api.Panel)
		want   api.Errno
	}{
		{func(p *api.Panel) { p.Items = 2 }, api.ErrMissing},
		{func(p *api.Panel) { p.Items = 1 }, api.ErrMissing},
		{func(p *api.Panel) { p.Items = 11 }, api.ErrCount},
		{func(p *api.Panel) { p.Cuts = []int{1, 2, 3, 4, 5, 6} }, api.ErrCount},
		{func(p *api.Panel) { p.Cuts = []int{1, 2, 3, 4, 5} }, api.OK},
		{func(p *api.Panel) { p.Cuts = nil }, api.ErrValue}, // of the first opinion
		{func(p *api.Panel) { p.Cuts = []int{1} }, api.ErrValue},
		{func(p *api.Panel) { p.Cuts = []int{100, 100} }, api.ErrOrder},
		{func(p *api.Panel) { p.Cuts = []int{100, 99, 0} }, api.ErrOrder},
		{func(p *api.Panel) { p.Cuts = []int{100, 0, 99} }, api.ErrValue},
		{func(p *api.Panel) { p.Cuts = []int{0, 100} }, api.ErrValue},
		{func(p *api.Panel) { p.Cuts = []int{100, 200001} }, api.ErrValue},
		{func(p *api.Panel) { p.Graders = make([]api.Grader, 6) }, api.ErrCount},
		{func(p *api.Panel) { p.Graders = make([]api.Grader, 5) }, api.ErrCode},
		{func(p *api.Panel) { p.Graders = p.Graders[:1] }, api.ErrMissing},
		{func(p *api.Panel) { p.Graders[0].Bias, p.Graders[1].Code = bounds(1, 0), "" }, api.ErrValue},
		{func(p *api.Panel) { p.Graders[0].Code, p.Graders[1].Bias = "", bounds(1, 0) }, api.ErrCode},
		{func(p *api.Panel) { p.Graders[1] = api.Grader{Code: "ANA", Bias: bounds(1, 0)} }, api.ErrRepeat},
		{func(p *api.Panel) { p.Graders[0].Code, p.Graders[1].Code = "a", "a" }, api.ErrCode},
		{func(p *api.Panel) {
			p.Graders = append(p.Graders, api.Grader{Code: "CAM"}, api.Grader{Code: "a"})
		}, api.ErrRepeat},
		{func(p *api.Panel) { p.Graders = append(p.Graders, api.Grader{Code: "ANA"}) }, api.ErrRepeat},
		// Opinions and pairs count together.
		{func(p *api.Panel) { p.Pairs = slices.Repeat(p.Pairs, 9) }, api.OK},
		{func(p *api.Panel) { p.Pairs = slices.Repeat(p.Pairs, 10) }, api.ErrCount},
		{func(p *api.Panel) { p.Pairs = make([]api.Pair, 10) }, api.ErrCount},
		{func(p *api.Panel) { p.Opinions = make([]api.Opinion, 12) }, api.ErrCount},
		{func(p *api.Panel) { p.Opinions, p.Pairs = make([]api.Opinion, 12), nil }, api.ErrRepeat},
		{func(p *api.Panel) { p.Opinions, p.Pairs = nil, make([]api.Pair, 13) }, api.ErrCount},
		{func(p *api.Panel) { p.Opinions, p.Pairs = nil, make([]api.Pair, 12) }, api.ErrRound},
		// The first element with an error decides.
		{func(p *api.Panel) { p.Opinions[0].Class, p.Opinions[1].Item = 3, 9 }, api.ErrValue},
		{func(p *api.Panel) { p.Opinions[1] = p.Opinions[0]; p.Opinions[2].Class = 3 }, api.ErrRepeat},
		{func(p *api.Panel) { p.Opinions[1] = p.Opinions[0]; p.Opinions[1].Class = 2 }, api.ErrRepeat},
		{func(p *api.Panel) { p.Opinions[1] = p.Opinions[0]; p.Opinions[1].Class = 3 }, api.ErrValue},
		{func(p *api.Panel) { p.Opinions[2], p.Pairs[0].By = p.Opinions[0], -1 }, api.ErrRepeat},
		{func(p *api.Panel) {
			p.Pairs = append(p.Pairs, api.Pair{Better: 9})
			p.Pairs[0].By = -1
		}, api.ErrValue},
		{func(p *api.Panel) {
			p.Pairs = append(p.Pairs, api.Pair{Better: 9})
			p.Pairs[0].Better, p.Pairs[0].By = 1, -1
		}, api.ErrRound},
	} {
		p := changed(x.change)
		if e := grade.Check(p); e != x.want {
			t.Error(i, e)
		}
	}
}

// call is what the functions are asked with.
type call struct {
	p    api.Panel
	item int
	a, b int
}

func exampleCall() call { return call{examplePanel(), 1, 0, 1} }

// flaw makes a call invalid.
type flaw func(x *call)

// check is what the functions look at in one go: flaws that it finds, and its error.
type check struct {
	e     api.Errno
	flaws []flaw
}

func panelChecks() (l []check) {
	count := check{e: api.ErrCount}
	for _, n := range outside(0, api.MaxItems) {
		count.flaws = append(count.flaws, func(x *call) { x.p.Items = n })
	}
	for _, n := range []int{4, 1000} {
		count.flaws = append(count.flaws, func(x *call) { x.p.Cuts = append(x.p.Cuts, make([]int, n)...) })
	}
	l = append(l, count)
	l = append(l, cutChecks(0)...)
	l = append(l, cutChecks(1)...)
	l = append(l, check{api.ErrCount, []flaw{
		func(x *call) { x.p.Graders = append(x.p.Graders, make([]api.Grader, 4)...) },
		func(x *call) { x.p.Graders = append(x.p.Graders, make([]api.Grader, 1000)...) },
	}})
	l = append(l, graderChecks(0)...)
	l = append(l, graderChecks(1)...)
	l = append(l, check{api.ErrCount, []flaw{
		func(x *call) { x.p.Opinions = append(x.p.Opinions, make([]api.Opinion, 9)...) },
		func(x *call) { x.p.Pairs = append(x.p.Pairs, make([]api.Pair, 9)...) },
		func(x *call) { x.p.Pairs = append(x.p.Pairs, make([]api.Pair, 1000)...) },
	}})
	for opinion := range 3 {
		l = append(l, opinionChecks(opinion)...)
	}
	return append(l, pairChecks()...)
}

func cutChecks(cut int) []check {
	value, order := check{e: api.ErrValue}, check{e: api.ErrOrder}
	for _, n := range outside(1, api.MaxScale) {
		value.flaws = append(value.flaws, func(x *call) { x.p.Cuts[cut] = n })
	}
	if cut > 0 {
		order.flaws = []flaw{func(x *call) { x.p.Cuts[cut] = 100 }, func(x *call) { x.p.Cuts[cut] = 1 }}
	}
	return []check{value, order}
}

func graderChecks(grader int) []check {
	code, repeat, value := check{e: api.ErrCode}, check{e: api.ErrRepeat}, check{e: api.ErrValue}
	for _, s := range []string{"", "a", "9", "A_", "A;", "A23456789", "\xff"} {
		code.flaws = append(code.flaws, func(x *call) { x.p.Graders[grader].Code = s })
	}
	if grader > 0 {
		repeat.flaws = []flaw{func(x *call) { x.p.Graders[grader].Code = "ANA" }}
	}
	for _, b := range []api.Bounds{bounds(-20001, 0), bounds(0, 20001), known(20001), bounds(1, 0), bounds(math.MinInt, 0), bounds(0, math.MaxInt), bounds(math.MaxInt, math.MinInt)} {
		value.flaws = append(value.flaws, func(x *call) { x.p.Graders[grader].Bias = b })
	}
	return []check{code, repeat, value}
}

func opinionChecks(opinion int) []check {
	missing, value, repeat := check{e: api.ErrMissing}, check{e: api.ErrValue}, check{e: api.ErrRepeat}
	for _, n := range outside(0, 1) {
		missing.flaws = append(missing.flaws, func(x *call) { x.p.Opinions[opinion].Grader = n })
	}
	for _, n := range outside(0, 2) {
		missing.flaws = append(missing.flaws, func(x *call) { x.p.Opinions[opinion].Item = n })
		value.flaws = append(value.flaws, func(x *call) { x.p.Opinions[opinion].Class = n })
	}
	if opinion == 2 {
		repeat.flaws = []flaw{func(x *call) { x.p.Opinions[2].Grader = 0 }, func(x *call) { x.p.Opinions[2].Grader, x.p.Opinions[2].Item = 0, 0 }}
	}
	return []check{missing, value, repeat}
}

func pairChecks() []check {
	missing, value := check{e: api.ErrMissing}, check{e: api.ErrValue}
	for _, n := range outside(0, 1) {
		missing.flaws = append(missing.flaws, func(x *call) { x.p.Pairs[0].Grader = n })
	}
	for _, n := range outside(0, 2) {
		missing.flaws = append(missing.flaws, func(x *call) { x.p.Pairs[0].Better = n }, func(x *call) { x.p.Pairs[0].Worse = n }, func(x *call) { x.p.Pairs[0].Better, x.p.Pairs[0].Worse = n, n })
	}
	for _, n := range outside(0, api.MaxScale) {
		value.flaws = append(value.flaws, func(x *call) { x.p.Pairs[0].By = n })
	}
	round := check{api.ErrRound, []flaw{func(x *call) { x.p.Pairs[0].Better, x.p.Pairs[0].Worse = 1, 1 }, func(x *call) { x.p.Pairs[0].Better, x.p.Pairs[0].Worse = 0, 0 }}}
	return []check{missing, round, value}
}

// againstCheck returns the check for judgements that contradict each other.
func againstCheck() check {
	return check{api.ErrAgainst, []flaw{
		func(x *call) { x.p = conflictPanel() },
		func(x *call) { x.p.Graders[1].Bias = known(50) },
		func(x *call) { x.p.Opinions[2].Class = 0 },
		func(x *call) { x.p.Pairs[0].By = 200000 },
	}}
}

// ordered checks a function: each flaw has its error, and of two flaws the one of the earlier check decides.
func ordered(t *testing.T, name string, checks []check, ask func(x call) (zero bool, e api.Errno)) {
	t.Helper()
	if _, e := ask(exampleCall()); e != api.OK {
		t.Error(name, "without a flaw", e)
	}
	for i, first := range checks {
		for n, a := range first.flaws {
			x := exampleCall()
			a(&x)
			if zero, e := ask(x); !zero || e != first.e {
				t.Error(name, i, n, zero, e)
			}
			for j, later := range checks[i+1:] {
				for m, b := range later.flaws {
					x := exampleCall()
					b(&x)
					a(&x)
					if zero, e := ask(x); !zero || e != first.e {
						t.Error(name, i, n, "before", i+1+j, m, zero, e)
					}
				}
			}
		}
	}
}

// P6.1 to P6.5, P0.1: the errors of all functions, in their order, and zero values with them.
func TestErrors(t *testing.T) {
	of := panelChecks()
	against := append(panelChecks(), againstCheck())
	ordered(t, "Check", of, func(x call) (bool, api.Errno) { return true, grade.Check(x.p) })
	ordered(t, "Scale", of, func(x call) (bool, api.Errno) {
		v, b, found, e := grade.Scale(x.p)
		return v == nil && b == nil && !found, e
	})
	ordered(t, "Bounds", against, func(x call) (bool, api.Errno) {
		v, b, e := grade.Bounds(x.p)
		return v == nil && b == nil, e
	})
	item, grader := check{e: api.ErrMissing}, check{e: api.ErrMissing}
	for _, n := range outside(0, 2) {
		item.flaws = append(item.flaws, func(x *call) { x.item = n })
	}
	for _, n := range outside(0, 1) {
		grader.flaws = append(grader.flaws, func(x *call) { x.a = n }, func(x *call) { x.b = n })
	}
	ordered(t, "Classes", slices.Concat(of, []check{item, againstCheck()}), func(x call) (bool, api.Errno) {
		a, b, e := grade.Classes(x.p, x.item)
		return a == 0 && b == 0, e
	})
	ordered(t, "Conflict", of, func(x call) (bool, api.Errno) {
		l, found, e := grade.Conflict(x.p)
		return l == nil && !found, e
	})
	ordered(t, "Leave", of, func(x call) (bool, api.Errno) {
		l, e := grade.Leave(x.p)
		return l == nil, e
	})
	ordered(t, "Agree", append(panelChecks(), grader), func(x call) (bool, api.Errno) {
		g, e := grade.Agree(x.p, x.a, x.b)
		return g == api.Agreement{}, e
	})
	ordered(t, "Print", of, func(x call) (bool, api.Errno) {
		s, e := grade.Print(x.p)
		return s == "", e
	})
}

// P0.1: whatever is asked, there is an answer, and no other result with an error.
func TestAnyArguments(t *testing.T) {
	r := rand.New(rand.NewSource(14))
	all := append(panelChecks(), againstCheck())
	for range 2 * often {
		x := exampleCall()
		for _, c := range slices.Backward(all) {
			if len(c.flaws) > 0 && r.Intn(20) == 0 {
				c.flaws[r.Intn(len(c.flaws))](&x)
			}
		}
		x.item, x.a, x.b = r.Intn(7)-2, r.Intn(5)-2, r.Intn(5)-2
		e := grade.Check(x.p)
		if v, b, found, f := grade.Scale(x.p); f != e || found != (v != nil) || found != (b != nil) {
			t.Fatal(x, v, b, found, f)
		}
		if v, b, e := grade.Bounds(x.p); e != api.OK && (v != nil || b != nil) {
			t.Fatal(x, v, b, e)
		}
		if a, b, e := grade.Classes(x.p, x.item); e != api.OK && (a != 0 || b != 0) {
			t.Fatal(x, a, b, e)
		}
		if l, found, f := grade.Conflict(x.p); f != e || found != (l != nil) {
			t.Fatal(x, l, found, f)
		}
		if l, f := grade.Leave(x.p); f != e || e != api.OK && l != nil {
			t.Fatal(x, l, f)
		}
		if g, f := grade.Agree(x.p, x.a, x.b); (f == api.OK) != (g.Den > 0) || f != api.OK && g != (api.Agreement{}) {
			t.Fatal(x, g, f)
		}
		if s, f := grade.Print(x.p); f != e || (e == api.OK) != strings.HasPrefix(s, "panel;") {
			t.Fatal(x, s, f)
		}
	}
}

// R3: nil and empty slices are the same value.
func TestNilAndEmpty(t *testing.T) {
	for i, p := range []api.Panel{{}, {Cuts: []int{}, Graders: []api.Grader{}, Opinions: []api.Opinion{}, Pairs: []api.Pair{}}} {
		scaled(t, i, p, true, nil, nil)
		if l, found, e := grade.Conflict(p); len(l) > 0 || found || e != api.OK {
			t.Error(i, l, found, e)
		}
		if l, e := grade.Leave(p); len(l) > 0 || e != api.OK {
			t.Error(i, l, e)
		}
		if s, e := grade.Print(p); s != "panel;0\n" || e != api.OK {
			t.Error(i, s, e)
		}
		if _, e := grade.Agree(p, 0, 0); e != api.ErrMissing {
			t.Error(i, e)
		}
	}
	for _, l := range [][]int{nil, {}} {
		for _, m := range [][]int{nil, {}} {
			if cuts, wrong, e := grade.Teach(l, m, 3); !slices.Equal(cuts, []int{0, 0}) || wrong != 0 || e != api.OK {
				t.Error(cuts, wrong, e)
			}
		}
	}
}

// R4: no argument is changed, and no result shares memory with one, or with another one.
func TestArgumentsAreKept(t *testing.T) {
	p := conflictPanel()
	p.Cuts = append(make([]int, 0, 9), p.Cuts...) // with room for more, which nobody is to use
	kept := copyOf(p)
	room := slices.Clone(p.Cuts[:9])
	for range 2 {
		judgements, _, _ := grade.Conflict(p)
		left, _ := grade.Leave(p)
		if !slices.Equal(judgements, []int{0, 1, 4}) || !slices.Equal(left, []int{0}) {
			t.Error(judgements, left)
		}
		clear(judgements)
		clear(left)
		grade.Agree(p, 0, 1)
		grade.Print(p)
	}
	q := only(p, func(j int) bool { return j != 4 })
	for range 2 {
		values, biases, _, _ := grade.Scale(q)
		l, m, _ := grade.Bounds(q)
		if !slices.Equal(append(values, 7), []int{90, 190, 220, 7}) || !slices.Equal(append(biases, 7), []int{10, 0, 7}) || l[0] != bounds(90, 198) || m[0] != bounds(1, 10) {
			t.Error(values, biases, l, m)
		}
		_, _ = append(values[:0], 8, 8, 8, 8), append(l[:0], known(8), known(8), known(8))
		grade.Classes(q, 0)
	}
	if !samePanel(p, kept) || !slices.Equal(p.Cuts[:9], room) {
		t.Error(p)
	}
	readings, classes := []int{30, 10, 20}, []int{1, 0, 1}
	cuts, _, _ := grade.Teach(readings, classes, 2)
	clear(cuts)
	if cuts, _, _ = grade.Teach(readings, classes, 2); !slices.Equal(cuts, []int{11}) || !slices.Equal(readings, []int{30, 10, 20}) || !slices.Equal(classes, []int{1, 0, 1}) {
		t.Error(cuts, readings, classes)
	}
}
