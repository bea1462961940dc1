package taint_test

import (
	"math/rand"
	"slices"
	"strings"
	"testing"

	"sobreiro/api"
	"sobreiro/taint"
)

// P9.1: what is within its range, at its ends too, is valid.
func TestCheckAccepts(t *testing.T) {
	twelve := []int{0, 1, 2, 3, 4, 5, 6, 7, 8, 9, 10, 11}
	for i, l := range []api.Lot{
		exampleLot(),
		{},
		{Most: 12},
		{Planks: []string{"A", "A-", "A0", "ABCDEFGH", "Z", "ZZ"}},
		{Planks: []string{"A", "B", "C", "D", "E", "F"}, Corks: slices.Repeat([]int{5}, 12), Most: 12, Pools: slices.Repeat([]api.Pool{pool(12, lost, twelve...)}, 12)},
		{Planks: []string{"A"}, Corks: make([]int, 12), Pools: []api.Pool{pool(1, never), pool(12, always, 11), pool(1, lost, 0, 11)}}, // without a case
		{Pools: make([]api.Pool, 0, 99)},
	} {
		if e := taint.Check(l); e != api.OK {
			t.Error(i, e)
		}
		if s, e := taint.Print(l); s == "" || e != api.OK {
			t.Error(i, s, e)
		}
	}
}

// P9.1, R1: lists are checked after their number, one by one.
func TestLotErrors(t *testing.T) {
	for i, x := range []struct {
		change func(l *api.Lot)
		want   api.Errno
	}{
		{func(l *api.Lot) { l.Planks = []string{"A", "B", "C", "D", "E", "F", "G"} }, api.ErrCount},
		{func(l *api.Lot) { l.Planks = make([]string, 7) }, api.ErrCount},
		{func(l *api.Lot) { l.Planks[1] = "" }, api.ErrCode},
		{func(l *api.Lot) { l.Planks[1] = "b" }, api.ErrCode},
		{func(l *api.Lot) { l.Planks[1] = "B;" }, api.ErrCode},
		{func(l *api.Lot) { l.Planks[1] = "BCDEFGHIJ" }, api.ErrCode},
		{func(l *api.Lot) { l.Planks[1] = "A" }, api.ErrRepeat},
		{func(l *api.Lot) { l.Planks = []string{"A", "B", "C", "A"} }, api.ErrRepeat},
		{func(l *api.Lot) { l.Planks = []string{"A", "B", "B", "c"} }, api.ErrRepeat},
		{func(l *api.Lot) { l.Planks = []string{"A", "b", "A", "A"} }, api.ErrCode},
		{func(l *api.Lot) { l.Planks = []string{"a", "a"} }, api.ErrCode},
		{func(l *api.Lot) { l.Planks = nil }, api.ErrMissing},
		{func(l *api.Lot) { l.Corks = make([]int, 13) }, api.ErrCount},
		{func(l *api.Lot) { l.Corks = slices.Repeat([]int{2}, 13) }, api.ErrCount},
		{func(l *api.Lot) { l.Corks[0] = -1 }, api.ErrMissing},
		{func(l *api.Lot) { l.Corks[4] = 2 }, api.ErrMissing},
		{func(l *api.Lot) { l.Corks = nil }, api.ErrMissing}, // the pools have corks
		{func(l *api.Lot) { l.Corks, l.Pools = nil, nil }, api.OK},
		{func(l *api.Lot) { l.Most = -1 }, api.ErrValue},
		{func(l *api.Lot) { l.Most = 13 }, api.ErrValue},
		{func(l *api.Lot) { l.Most = 6 }, api.OK}, // more than there are corks
		{func(l *api.Lot) { l.Pools = make([]api.Pool, 13) }, api.ErrCount},
		{func(l *api.Lot) { l.Pools = make([]api.Pool, 12) }, api.ErrValue}, // without a need
		{func(l *api.Lot) { l.Pools[0].Corks[2] = 5 }, api.ErrMissing},
		{func(l *api.Lot) { l.Pools[0].Corks[0] = -1 }, api.ErrMissing},
		{func(l *api.Lot) { l.Pools[0].Corks[1] = 0 }, api.ErrOrder},
		{func(l *api.Lot) { l.Pools[0].Corks[0] = 1 }, api.ErrOrder},
		{func(l *api.Lot) { l.Pools[0].Corks[0] = 4 }, api.ErrOrder},
		{func(l *api.Lot) { l.Pools[0].Corks = []int{1, 1, 5} }, api.ErrOrder},
		{func(l *api.Lot) { l.Pools[0].Corks = []int{1, 5, 5} }, api.ErrMissing},
		{func(l *api.Lot) { l.Pools[0].Corks = []int{1, -1, 1} }, api.ErrMissing},
		{func(l *api.Lot) { l.Pools[0].Corks = make([]int, 13) }, api.ErrOrder},
		{func(l *api.Lot) { l.Pools[2].Need = 0 }, api.ErrValue},
		{func(l *api.Lot) { l.Pools[2].Need = 13 }, api.ErrValue},
		{func(l *api.Lot) { l.Pools[2].Need = 12 }, api.OK}, // more than the pool has corks
		{func(l *api.Lot) { l.Pools[2].Result = 3 }, api.ErrValue},
		{func(l *api.Lot) { l.Pools[2].Result = -1 }, api.ErrValue},
		{func(l *api.Lot) { l.Pools[2].Corks = nil }, api.OK},
		// The first pool with an error decides.
		{func(l *api.Lot) { l.Pools[0].Need, l.Pools[1].Corks[0] = 0, 5 }, api.ErrValue},
		{func(l *api.Lot) { l.Pools[1].Need, l.Pools[0].Corks[1] = 0, 0 }, api.ErrOrder},
	} {
		l := changed(x.change)
		if e := taint.Check(l); e != x.want {
			t.Error(i, e)
		}
	}
}

// call is what the functions of a lot are asked with.
type call struct {
	l     api.Lot
	pools []api.Pool
}

func exampleCall() call {
	return call{exampleLot(), []api.Pool{pool(1, lost, 2, 4), pool(2, always, 1, 3)}}
}

// mistake makes a call invalid.
type mistake func(x *call)

// check is what the functions look at in one go: mistakes that it finds, and its error.
type check struct {
	e        api.Errno
	mistakes []mistake
}

// number adds the mistakes of a number that has to be from low to high.
func (c *check) number(low, high int, set func(x *call, n int)) {
	for _, n := range outside(low, high) {
		c.mistakes = append(c.mistakes, func(x *call) { set(x, n) })
	}
}

// lotChecks are the checks of a lot. A list can be shorter or longer by a mistake of a later check.
func lotChecks() (l []check) {
	l = append(l, check{api.ErrCount, []mistake{
		func(x *call) { x.l.Planks = append(x.l.Planks, "C", "D", "E", "F", "G") },
		func(x *call) { x.l.Planks = append(x.l.Planks, make([]string, 1000)...) },
	}})
	for i := range 2 {
		l = append(l, plankChecks(i)...)
	}
	l = append(l, check{api.ErrCount, []mistake{
		func(x *call) { x.l.Corks = append(x.l.Corks, make([]int, 8)...) },
		func(x *call) { x.l.Corks = append(x.l.Corks, slices.Repeat([]int{-1}, 1000)...) },
	}})
	for i := range 5 {
		missing := check{e: api.ErrMissing}
		missing.number(0, 1, func(x *call, n int) { x.l.Corks[i] = n })
		l = append(l, missing)
	}
	most := check{e: api.ErrValue}
	most.number(0, api.MaxTested, func(x *call, n int) { x.l.Most = n })
	l = append(l, most, check{api.ErrCount, []mistake{
		func(x *call) { x.l.Pools = append(x.l.Pools, slices.Repeat(x.l.Pools[:1], 10)...) },
		func(x *call) { x.l.Pools = append(x.l.Pools, make([]api.Pool, 1000)...) },
	}})
	for i := range 3 {
		l = append(l, poolChecks(len(exampleLot().Pools[i].Corks), func(x *call) *api.Pool { return &x.l.Pools[i] })...)
	}
	return l
}

func plankChecks(i int) (l []check) {
	code := check{e: api.ErrCode}
	for _, s := range []string{"", "a", "1A", "-A", "A_", "A;", "A\n", "Ä", "\xff", "ABCDEFGHI", strings.Repeat("A", 60000)} {
		code.mistakes = append(code.mistakes, func(x *call) { x.l.Planks[i] = s })
	}
	l = append(l, code)
	if i > 0 {
		l = append(l, check{api.ErrRepeat, []mistake{func(x *call) { x.l.Planks[i] = x.l.Planks[i-1] }}})
	}
	return l
}

// poolChecks are the checks of a pool of so many corks out of five.
func poolChecks(corks int, pool func(x *call) *api.Pool) (l []check) {
	// A call can have fewer pools.
	at := func(change func(p *api.Pool)) mistake {
		return func(x *call) {
			if p := pool(x); p != nil {
				change(p)
			}
		}
	}
	for i := range corks {
		missing := check{e: api.ErrMissing}
		for _, n := range outside(0, 4) {
			missing.mistakes = append(missing.mistakes, at(func(p *api.Pool) { p.Corks[i] = n }))
		}
		l = append(l, missing)
		if i > 0 {
			l = append(l, check{api.ErrOrder, []mistake{
				at(func(p *api.Pool) { p.Corks[i] = p.Corks[i-1] }),
				at(func(p *api.Pool) { p.Corks[i] = 0 }),
			}})
		}
	}
	value := check{e: api.ErrValue}
	for _, n := range outside(1, api.MaxTested) {
		value.mistakes = append(value.mistakes, at(func(p *api.Pool) { p.Need = n }))
	}
	for _, n := range outside(0, 2) {
		value.mistakes = append(value.mistakes, at(func(p *api.Pool) { p.Result = api.Verdict(n) }))
	}
	return append(l, value)
}

// nextChecks are the checks of the pools that could be tested next.
func nextChecks() (l []check) {
	l = append(l, check{api.ErrCount, []mistake{
		func(x *call) { x.pools = nil },
		func(x *call) { x.pools = []api.Pool{} },
		func(x *call) { x.pools = append(x.pools, slices.Repeat([]api.Pool{pool(1, lost)}, 11)...) },
		func(x *call) { x.pools = append(x.pools, make([]api.Pool, 1000)...) },
	}})
	for i := range 2 {
		l = append(l, poolChecks(2, func(x *call) *api.Pool {
			if i >= len(x.pools) {
				return nil
			}
			return &x.pools[i]
		})...)
	}
	return l
}

// caseCheck is the check that there is a case.
func caseCheck() check {
	return check{api.ErrAgainst, []mistake{func(x *call) { x.l.Most = 0 }}}
}

// ordered checks a function: each mistake has its error, and of two the one of the earlier check decides.
func ordered(t *testing.T, name string, checks []check, ask func(x call) (zero bool, e api.Errno)) {
	t.Helper()
	if _, e := ask(exampleCall()); e != api.OK {
		t.Error(name, "without a mistake", e)
	}
	for i, first := range checks {
		for n, a := range first.mistakes {
			x := exampleCall()
			a(&x)
			if zero, e := ask(x); !zero || e != first.e {
				t.Error(name, i, n, zero, e)
			}
			for j, later := range checks[i+1:] {
				for m, b := range later.mistakes {
					x := exampleCall()
					b(&x)
					a(&x)
					if zero, e := ask(x); !zero || e != first.e {
						t.Error(name, i, n, "before", i+1+j, m, zero, e)
					}
				}
			}
		}
	}
}

// functions are those of a lot. With an error they say whether all else is its zero value.
func functions() map[string]func(x call) (zero bool, e api.Errno) {
	return map[string]func(x call) (bool, api.Errno){
		"Check": func(x call) (bool, api.Errno) { return true, taint.Check(x.l) },
		"Cases": func(x call) (bool, api.Errno) {
			cases, pool, e := taint.Cases(x.l)
			return cases == 0 && (pool == 0 || e == api.ErrAgainst), e
		},
		"Corks": func(x call) (bool, api.Errno) {
			l, e := taint.Corks(x.l)
			return l == nil, e
		},
		"Fewest": func(x call) (bool, api.Errno) {
			l, e := taint.Fewest(x.l)
			return l == nil, e
		},
		"Planks": func(x call) (bool, api.Errno) {
			l, e := taint.Planks(x.l)
			return l == nil, e
		},
		"Catch": func(x call) (bool, api.Errno) {
			l, e := taint.Catch(x.l)
			return l == nil, e
		},
		"Next": func(x call) (bool, api.Errno) {
			pool, left, e := taint.Next(x.l, x.pools)
			return pool == 0 && left == 0, e
		},
		"Print": func(x call) (bool, api.Errno) {
			s, e := taint.Print(x.l)
			return s == "", e
		},
	}
}

// checksOf are the checks of a function, in their order.
func checksOf(name string) []check {
	switch name {
	case "Check", "Print":
		return lotChecks()
	case "Next":
		return append(append(lotChecks(), nextChecks()...), caseCheck())
	default:
		return append(lotChecks(), caseCheck())
	}
}

// P9.1 to P9.5, P0.1: the errors of all functions, in their order, and zero values with them.
func TestErrors(t *testing.T) {
	for name, ask := range functions() {
		ordered(t, name, checksOf(name), ask)
	}
}

// P0.1: whatever is asked, there is an answer, Check's error goes first, and there is no other result with an error.
func TestAnyArguments(t *testing.T) {
	r := rand.New(rand.NewSource(14))
	all := append(append(lotChecks(), nextChecks()...), caseCheck())
	for i := range 2 * often {
		x := exampleCall()
		for _, c := range slices.Backward(all) {
			if r.Intn(30) == 0 {
				c.mistakes[r.Intn(len(c.mistakes))](&x)
			}
		}
		if i%2 == 0 {
			x.l = anyLot(r, sizes(i))
		}
		ofLot := taint.Check(x.l)
		for name, ask := range functions() {
			zero, e := ask(x)
			if ofLot != api.OK && e != ofLot || e != api.OK && !zero {
				t.Fatal(name, x, zero, e, ofLot)
			}
		}
	}
}

// R3: nil and empty slices are the same value.
func TestNilAndEmpty(t *testing.T) {
	full := api.Lot{Planks: []string{}, Corks: []int{}, Most: 1, Pools: []api.Pool{{Corks: []int{}, Need: 1, Result: never}}}
	for _, l := range []api.Lot{full, {Most: 1, Pools: []api.Pool{pool(1, never)}}} {
		if got := saidOf(l); got != (said{1, 1, api.OK}) {
			t.Error(got)
		}
		if corks, e := taint.Corks(l); len(corks) > 0 || e != api.OK {
			t.Error(corks, e)
		}
		if planks, e := taint.Catch(l); len(planks) > 0 || e != api.OK {
			t.Error(planks, e)
		}
		if n, left, e := taint.Next(l, []api.Pool{{Corks: []int{}, Need: 1}}); n != 0 || left != 1 || e != api.OK {
			t.Error(n, left, e)
		}
		if s, e := taint.Print(l); s != "lot;1\npool;1;N\n" || e != api.OK {
			t.Error(s, e)
		}
	}
	for _, none := range [][]api.Pool{nil, {}} {
		if _, _, e := taint.Next(exampleLot(), none); e != api.ErrCount {
			t.Error(e)
		}
	}
}

// withRoom returns a list that has room after it, which nobody is to use.
func withRoom[T any](l []T) []T { return append(make([]T, 0, 2*len(l)), l...) }

// hasRoomLeft says whether the room after a list is as it was.
func hasRoomLeft[T comparable](l []T) bool {
	var zero T
	return !slices.ContainsFunc(l[len(l):2*len(l)], func(t T) bool { return t != zero })
}

// R4: no argument is changed, and no result shares memory with one.
func TestArgumentsAreKept(t *testing.T) {
	x := exampleCall()
	x.l.Planks, x.l.Corks = withRoom(x.l.Planks), withRoom(x.l.Corks)
	pools := slices.Concat(x.l.Pools, x.pools)
	for i := range pools {
		pools[i].Corks = withRoom(pools[i].Corks)
	}
	x.l.Pools, x.pools = pools[:3:3], pools[3:]
	for range 3 {
		for name, ask := range functions() {
			if _, e := ask(x); e != api.OK {
				t.Error(name, e)
			}
		}
		corks, _ := taint.Corks(x.l)
		clear(corks)
		fewest, _ := taint.Fewest(x.l)
		clear(fewest)
		planks, _ := taint.Catch(x.l)
		clear(planks)
	}
	if kept := exampleCall(); !sameLot(x.l, kept.l) || !slices.EqualFunc(x.pools, kept.pools, samePool) {
		t.Error(x, kept)
	}
	if !hasRoomLeft(x.l.Planks) || !hasRoomLeft(x.l.Corks) || slices.ContainsFunc(pools, func(p api.Pool) bool { return !hasRoomLeft(p.Corks) }) {
		t.Error(x)
	}
}
