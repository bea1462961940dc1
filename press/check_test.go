package press_test

import (
	"math/rand"
	"slices"
	"strings"
	"testing"

	"sobreiro/api"
	"sobreiro/press"
)

// fullPress has as many steps as a press can have, at the ends of all ranges.
func fullPress() api.Press {
	p := api.Press{Jaw: api.MaxWidth, Crush: 1000, Grip: api.MaxWidth, Limit: api.MaxOxygen}
	for i := range api.MaxSteps {
		p.Steps = append(p.Steps, api.Step{From: 200 * i, Springs: bounds(0, 1000), Breathes: bounds(0, api.MaxOxygen)})
	}
	return p
}

// P8.1: what is within its range, at its ends too, is valid.
func TestChecksAccept(t *testing.T) {
	one := []api.Step{{}}
	for i, p := range []api.Press{
		exampleQuestion().p, fullPress(),
		{Jaw: 1, Crush: 1, Steps: one},
		{Jaw: 1, Crush: 1000, Steps: []api.Step{{Springs: known(1000), Breathes: known(100000)}}},
		{Jaw: 4000, Crush: 1, Steps: []api.Step{{}, {From: 1}, {From: 2}, {From: 3}, {From: 999}, {From: 1000}}},
	} {
		if e := press.CheckPress(p); e != api.OK {
			t.Error(i, e)
		}
	}
	for i, c := range []api.Cork{
		exampleQuestion().c,
		{Width: known(1), Length: known(1)},
		{Width: known(4000), Length: known(8000), Density: known(1000)},
		{Width: bounds(1, 201), Length: bounds(1, 8000), Density: bounds(0, 1000)},
		{Width: bounds(3800, 4000), Length: known(1), Density: known(0)},
	} {
		if e := press.CheckCork(c); e != api.OK {
			t.Error(i, e)
		}
		if _, _, e := press.Seal(fullPress(), c, api.Neck{Bore: bounds(0, api.MaxWidth), Depth: api.MaxLength}); e != api.OK {
			t.Error(i, e)
		}
		if _, _, e := press.Widest(fullPress(), c, api.MaxLength); e != api.OK {
			t.Error(i, e)
		}
	}
}

// P8.1, R1: steps are checked after their number, one by one.
func TestPressErrors(t *testing.T) {
	for i, x := range []struct {
		change func(p *api.Press)
		want   api.Errno
	}{
		{func(p *api.Press) { p.Jaw = 0 }, api.ErrValue},
		{func(p *api.Press) { p.Jaw = 4001 }, api.ErrValue},
		{func(p *api.Press) { p.Crush = 0 }, api.ErrValue},
		{func(p *api.Press) { p.Crush = 1001 }, api.ErrValue},
		{func(p *api.Press) { p.Grip = -1 }, api.ErrValue},
		{func(p *api.Press) { p.Grip = 4001 }, api.ErrValue},
		{func(p *api.Press) { p.Limit = -1 }, api.ErrValue},
		{func(p *api.Press) { p.Limit = 100001 }, api.ErrValue},
		{func(p *api.Press) { p.Steps = nil }, api.ErrCount},
		{func(p *api.Press) { p.Steps = make([]api.Step, 7) }, api.ErrCount},
		{func(p *api.Press) { p.Jaw, p.Steps = 0, nil }, api.ErrValue},
		{func(p *api.Press) { p.Steps = make([]api.Step, 6) }, api.ErrOrder},
		{func(p *api.Press) { p.Steps = make([]api.Step, 1) }, api.OK},
		{func(p *api.Press) { p.Steps[0].From = 1 }, api.ErrOrder},
		{func(p *api.Press) { p.Steps[0].From = 200 }, api.ErrOrder},
		{func(p *api.Press) { p.Steps[0].From = -1 }, api.ErrValue},
		{func(p *api.Press) { p.Steps[1].From = 0 }, api.ErrOrder},
		{func(p *api.Press) { p.Steps[1].From = 1 }, api.OK},
		{func(p *api.Press) { p.Steps[1].From = 1000 }, api.OK},
		{func(p *api.Press) { p.Steps[1].From = 1001 }, api.ErrValue},
		{func(p *api.Press) { p.Steps = append(p.Steps, p.Steps[1]) }, api.ErrOrder},
		{func(p *api.Press) { p.Steps = append(p.Steps, api.Step{From: 199}) }, api.ErrOrder},
		{func(p *api.Press) { p.Steps = append(p.Steps, api.Step{From: 201}) }, api.OK},
		{func(p *api.Press) { p.Steps[0].Springs = bounds(950, 900) }, api.ErrValue},
		{func(p *api.Press) { p.Steps[1].Springs = bounds(900, 1001) }, api.ErrValue},
		{func(p *api.Press) { p.Steps[1].Springs = bounds(-1, 900) }, api.ErrValue},
		{func(p *api.Press) { p.Steps[0].Breathes = bounds(3000, 2000) }, api.ErrValue},
		{func(p *api.Press) { p.Steps[1].Breathes = bounds(1500, 100001) }, api.ErrValue},
		{func(p *api.Press) { p.Steps[1].Breathes = bounds(-1, 100) }, api.ErrValue},
		// The first step with an error decides.
		{func(p *api.Press) { p.Steps[0].From, p.Steps[1].From = 1, -1 }, api.ErrOrder},
		{func(p *api.Press) { p.Steps[0].Springs.Min, p.Steps[1].From = -1, 0 }, api.ErrValue},
		{func(p *api.Press) { p.Steps[0].From, p.Steps[0].Springs.Min = 1, -1 }, api.ErrValue},
	} {
		p := exampleQuestion().p
		x.change(&p)
		if e := press.CheckPress(p); e != x.want {
			t.Error(i, e)
		}
	}
}

// P8.1: a cork's numbers, and how far its widths may be apart.
func TestCorkErrors(t *testing.T) {
	for i, c := range []api.Cork{
		{},
		{Width: known(0), Length: known(1)},
		{Width: known(1), Length: known(0)},
		{Width: bounds(2400, 2601), Length: known(1)},
		{Width: bounds(1, 202), Length: known(1)},
		{Width: bounds(1, 4000), Length: known(1)},
		{Width: bounds(3900, 4001), Length: known(1)},
		{Width: bounds(0, 200), Length: known(1)},
		{Width: bounds(5, 4), Length: known(1)},
		{Width: known(5), Length: bounds(0, 8000)},
		{Width: known(5), Length: bounds(1, 8001)},
		{Width: known(5), Length: bounds(5, 4)},
		{Width: known(5), Length: known(5), Density: bounds(-1, 5)},
		{Width: known(5), Length: known(5), Density: bounds(0, 1001)},
		{Width: known(5), Length: known(5), Density: bounds(6, 5)},
	} {
		if e := press.CheckCork(c); e != api.ErrValue {
			t.Error(i, e)
		}
	}
}

// call is what the functions are asked with.
type call struct {
	question
	r     api.Recipe
	a     api.Assembly
	corks []api.Cork
}

func exampleCall() call {
	q := exampleQuestion()
	return call{q, exampleRecipe(), exampleAssembly(), slices.Repeat([]api.Cork{q.c}, 3)}
}

// mistake makes a call invalid.
type mistake func(x *call)

// check is what the functions look at in one go: mistakes that it finds, and its error.
type check struct {
	e        api.Errno
	mistakes []mistake
}

// number adds the mistakes of a number that has to be from low to high.
func (c *check) number(low, high int, set func(x *call, n int)) {
	for _, n := range outside(low, high) {
		c.mistakes = append(c.mistakes, func(x *call) { set(x, n) })
	}
}

// bounds adds the mistakes of bounds that have to be from low to high.
func (c *check) bounds(low, high int, set func(x *call, b api.Bounds)) {
	for _, b := range notBounds(low, high) {
		c.mistakes = append(c.mistakes, func(x *call) { set(x, b) })
	}
}

func pressChecks() (l []check) {
	value := check{e: api.ErrValue}
	value.number(1, api.MaxWidth, func(x *call, n int) { x.p.Jaw = n })
	value.number(1, 1000, func(x *call, n int) { x.p.Crush = n })
	value.number(0, api.MaxWidth, func(x *call, n int) { x.p.Grip = n })
	value.number(0, api.MaxOxygen, func(x *call, n int) { x.p.Limit = n })
	l = append(l, value, check{api.ErrCount, []mistake{
		func(x *call) { x.p.Steps = nil },
		func(x *call) { x.p.Steps = []api.Step{} },
		func(x *call) { x.p.Steps = append(x.p.Steps, make([]api.Step, 5)...) },
		func(x *call) { x.p.Steps = append(x.p.Steps, make([]api.Step, 1000)...) },
	}})
	for i := range 2 {
		l = append(l, stepChecks(i)...)
	}
	return l
}

func stepChecks(i int) []check {
	// A press can have fewer steps.
	at := func(change func(s *api.Step)) mistake {
		return func(x *call) {
			if i < len(x.p.Steps) {
				change(&x.p.Steps[i])
			}
		}
	}
	value, order := check{e: api.ErrValue}, check{e: api.ErrOrder}
	for _, n := range outside(0, api.MaxDensity) {
		value.mistakes = append(value.mistakes, at(func(s *api.Step) { s.From = n }))
	}
	for _, b := range notBounds(0, 1000) {
		value.mistakes = append(value.mistakes, at(func(s *api.Step) { s.Springs = b }))
	}
	for _, b := range notBounds(0, api.MaxOxygen) {
		value.mistakes = append(value.mistakes, at(func(s *api.Step) { s.Breathes = b }))
	}
	if i == 0 {
		order.mistakes = []mistake{at(func(s *api.Step) { s.From = 1 }), at(func(s *api.Step) { s.From = 1000 })}
	} else {
		order.mistakes = []mistake{at(func(s *api.Step) { s.From = 0 })}
	}
	return []check{value, order}
}

// corkCheck is the check of a cork.
func corkCheck(cork func(x *call) *api.Cork) check {
	value := check{e: api.ErrValue}
	value.bounds(1, api.MaxWidth, func(x *call, b api.Bounds) { cork(x).Width = b })
	value.bounds(1, api.MaxLength, func(x *call, b api.Bounds) { cork(x).Length = b })
	value.bounds(0, api.MaxDensity, func(x *call, b api.Bounds) { cork(x).Density = b })
	for _, b := range []api.Bounds{bounds(2400, 2601), bounds(1, 202), bounds(3799, 4000)} {
		value.mistakes = append(value.mistakes, func(x *call) { cork(x).Width = b })
	}
	return value
}

func neckCheck() check {
	value := depthCheck()
	value.bounds(0, api.MaxWidth, func(x *call, b api.Bounds) { x.n.Bore = b })
	return value
}

func depthCheck() check {
	value := check{e: api.ErrValue}
	value.number(0, api.MaxLength, func(x *call, n int) { x.n.Depth = n })
	return value
}

func recipeChecks() []check {
	value := check{e: api.ErrValue}
	value.number(1, api.MaxParts, func(x *call, n int) { x.r.Parts = n })
	value.bounds(0, api.MaxDensity, func(x *call, b api.Bounds) { x.r.Density = b })
	value.number(0, 1000, func(x *call, n int) { x.r.Fine = n })
	count := check{api.ErrCount, []mistake{
		func(x *call) { x.r.Granules = append(x.r.Granules, make([]api.Granule, 4)...) },
		func(x *call) { x.r.Granules = append(x.r.Granules, make([]api.Granule, 1000)...) },
	}}
	l := []check{value, count}
	for i := range 3 {
		granule := check{e: api.ErrValue}
		granule.number(0, api.MaxDensity, func(x *call, n int) { x.r.Granules[i].Density = n })
		granule.number(0, api.MaxPartPrice, func(x *call, n int) { x.r.Granules[i].Price = n })
		granule.number(0, api.MaxParts, func(x *call, n int) { x.r.Granules[i].Stock = n })
		l = append(l, granule)
	}
	return l
}

func assemblyChecks() []check {
	value := check{e: api.ErrValue}
	value.bounds(0, api.MaxLength, func(x *call, b api.Bounds) { x.a.Body = b })
	value.bounds(0, api.MaxLength, func(x *call, b api.Bounds) { x.a.Disc = b })
	value.bounds(0, api.MaxLength, func(x *call, b api.Bounds) { x.a.Glue = b })
	value.bounds(0, api.MaxLength, func(x *call, b api.Bounds) { x.a.Target = b })
	value.number(0, api.MaxDiscs, func(x *call, n int) { x.a.Discs = n })
	return []check{value}
}

func textChecks() []check {
	l := append(pressChecks(), check{api.ErrCount, []mistake{
		func(x *call) { x.corks = append(x.corks, slices.Repeat(x.corks[:1], 38)...) },
		func(x *call) { x.corks = append(x.corks, make([]api.Cork, 1000)...) },
	}})
	for i := range 3 {
		l = append(l, corkCheck(func(x *call) *api.Cork { return &x.corks[i] }))
	}
	return l
}

func ownCork(x *call) *api.Cork { return &x.c }

// ordered checks a function: each mistake has its error, and of two the one of the earlier check decides.
func ordered(t *testing.T, name string, checks []check, ask func(x call) (zero bool, e api.Errno)) {
	t.Helper()
	if _, e := ask(exampleCall()); e != api.OK {
		t.Error(name, "without a mistake", e)
	}
	for i, first := range checks {
		for n, a := range first.mistakes {
			x := exampleCall()
			a(&x)
			if zero, e := ask(x); !zero || e != first.e {
				t.Error(name, i, n, zero, e)
			}
			for j, later := range checks[i+1:] {
				for m, b := range later.mistakes {
					x := exampleCall()
					b(&x)
					a(&x)
					if zero, e := ask(x); !zero || e != first.e {
						t.Error(name, i, n, "before", i+1+j, m, zero, e)
					}
				}
			}
		}
	}
}

// P8.1 to P8.5, P0.1: the errors of all functions, in their order, and zero values with them.
func TestErrors(t *testing.T) {
	ordered(t, "CheckPress", pressChecks(), func(x call) (bool, api.Errno) { return true, press.CheckPress(x.p) })
	ordered(t, "CheckCork", []check{corkCheck(ownCork)}, func(x call) (bool, api.Errno) { return true, press.CheckCork(x.c) })
	ordered(t, "Seal", append(pressChecks(), corkCheck(ownCork), neckCheck()), func(x call) (bool, api.Errno) {
		v, rule, e := press.Seal(x.p, x.c, x.n)
		return v == api.VdUnknown && rule == api.PsNone, e
	})
	ordered(t, "Widest", append(pressChecks(), corkCheck(ownCork), depthCheck()), func(x call) (bool, api.Errno) {
		a, b, e := press.Widest(x.p, x.c, x.n.Depth)
		return a == 0 && b == 0, e
	})
	ordered(t, "Mix", recipeChecks(), func(x call) (bool, api.Errno) {
		l, cost, found, e := press.Mix(x.r)
		return l == nil && cost == 0 && !found, e
	})
	ordered(t, "Build", assemblyChecks(), func(x call) (bool, api.Errno) {
		length, off, v, e := press.Build(x.a)
		return length == api.Bounds{} && off == api.Bounds{} && v == api.VdUnknown, e
	})
	ordered(t, "Fewest", assemblyChecks(), func(x call) (bool, api.Errno) {
		discs, found, e := press.Fewest(x.a)
		return discs == 0 && !found, e
	})
	ordered(t, "Print", textChecks(), func(x call) (bool, api.Errno) {
		s, e := press.Print(x.p, x.corks)
		return s == "", e
	})
}

// P0.1: whatever is asked, there is an answer, and no other result with an error.
func TestAnyArguments(t *testing.T) {
	r := rand.New(rand.NewSource(16))
	all := slices.Concat(pressChecks(), []check{corkCheck(ownCork), neckCheck()}, recipeChecks(), assemblyChecks(), textChecks()[6:])
	for range 2 * often {
		x := exampleCall()
		x.question = someGreat(r)
		for _, c := range slices.Backward(all) {
			if r.Intn(30) == 0 {
				c.mistakes[r.Intn(len(c.mistakes))](&x)
			}
		}
		ofPress, ofCork := press.CheckPress(x.p), press.CheckCork(x.c)
		v, rule, e := press.Seal(x.p, x.c, x.n)
		if ofPress != api.OK && e != ofPress || ofPress == api.OK && ofCork != api.OK && e != ofCork || e != api.OK && (v != api.VdUnknown || rule != api.PsNone) {
			t.Fatal(x, v, rule, e)
		}
		if a, b, e := press.Widest(x.p, x.c, x.n.Depth); a > b || e != api.OK && (a != 0 || b != 0) {
			t.Fatal(x, a, b, e)
		}
		if l, cost, found, e := press.Mix(x.r); found != (l != nil) || e != api.OK && (found || cost != 0) {
			t.Fatal(x, l, cost, found, e)
		}
		length, off, v, e := press.Build(x.a)
		if e != api.OK && (length != api.Bounds{} || off != api.Bounds{} || v != api.VdUnknown) {
			t.Fatal(x, length, off, v, e)
		}
		if discs, found, f := press.Fewest(x.a); f != e || !found && discs != 0 {
			t.Fatal(x, discs, found, f)
		}
		if s, e := press.Print(x.p, x.corks); ofPress != api.OK && e != ofPress || (e == api.OK) != strings.HasPrefix(s, "press;") {
			t.Fatal(x, s, e)
		}
	}
}

// R3: nil and empty slices are the same value.
func TestNilAndEmpty(t *testing.T) {
	for _, none := range [][]api.Step{nil, {}} {
		if e := press.CheckPress(api.Press{Jaw: 1, Crush: 1, Steps: none}); e != api.ErrCount {
			t.Error(e)
		}
	}
	for _, none := range [][]api.Granule{nil, {}} {
		if l, cost, found, e := press.Mix(api.Recipe{Parts: 1, Granules: none}); len(l) > 0 || cost != 0 || found || e != api.OK {
			t.Error(l, cost, found, e)
		}
	}
	for _, none := range [][]api.Cork{nil, {}} {
		if s, e := press.Print(api.Press{Jaw: 1, Crush: 1, Steps: make([]api.Step, 1)}, none); s != "press;1;1;0;0\nstep;0;0;0;0;0\n" || e != api.OK {
			t.Error(s, e)
		}
	}
}

// withRoom returns a list that has room after it, which nobody is to use.
func withRoom[T any](l []T) []T { return append(make([]T, 0, 2*len(l)), l...) }

// hasRoomLeft says whether the room after a list is as it was.
func hasRoomLeft[T comparable](l []T) bool {
	var zero T
	return !slices.ContainsFunc(l[len(l):2*len(l)], func(t T) bool { return t != zero })
}

// R4: no argument is changed, and no result shares memory with one.
func TestArgumentsAreKept(t *testing.T) {
	x := exampleCall()
	x.p.Steps, x.r.Granules, x.corks = withRoom(x.p.Steps), withRoom(x.r.Granules), withRoom(x.corks)
	for range 3 {
		press.CheckPress(x.p)
		press.Seal(x.p, x.c, x.n)
		press.Widest(x.p, x.c, x.n.Depth)
		press.Print(x.p, x.corks)
		parts, _, _, _ := press.Mix(x.r)
		if !slices.Equal(parts, []int{1, 2, 1}) {
			t.Error(parts)
		}
		clear(parts)
		_ = append(parts[:0], 8, 8)
	}
	kept := exampleCall()
	if !samePress(x.p, kept.p) || !slices.Equal(x.r.Granules, kept.r.Granules) || !slices.Equal(x.corks, kept.corks) {
		t.Error(x, kept)
	}
	if !hasRoomLeft(x.p.Steps) || !hasRoomLeft(x.r.Granules) || !hasRoomLeft(x.corks) {
		t.Error(x.p.Steps[:4], x.r.Granules[:6], x.corks[:6])
	}
}
