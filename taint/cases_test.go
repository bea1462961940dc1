package taint_test

import (
	"math/rand"
	"slices"
	"testing"

	"sobreiro/api"
	"sobreiro/taint"
)

// Verdicts, short.
const (
	always  = api.VdAlways
	never   = api.VdNever
	unknown = api.VdUnknown
	lost    = api.VdUnknown
)

// said is what Cases says.
type said struct {
	cases, pool int
	e           api.Errno
}

func saidOf(l api.Lot) said {
	cases, pool, e := taint.Cases(l)
	return said{cases, pool, e}
}

// P9.1: the chapter's example, and edges.
func TestCases(t *testing.T) {
	corks := func(many, most int, pools ...api.Pool) api.Lot {
		return api.Lot{Planks: []string{"A"}, Corks: make([]int, many), Most: most, Pools: pools}
	}
	for i, x := range []struct {
		l    api.Lot
		want said
	}{
		{exampleLot(), said{6, 3, api.OK}},
		{changed(func(l *api.Lot) { l.Pools = nil }), said{16, 0, api.OK}},
		{changed(func(l *api.Lot) { l.Pools = l.Pools[:1] }), said{12, 1, api.OK}},
		{changed(func(l *api.Lot) { l.Pools = l.Pools[:2] }), said{11, 2, api.OK}},
		{changed(func(l *api.Lot) { l.Pools[0].Result = lost }), said{10, 3, api.OK}},
		{changed(func(l *api.Lot) { l.Pools[0].Result = never }), said{4, 3, api.OK}},
		{changed(func(l *api.Lot) { l.Pools[2].Result = lost }), said{11, 3, api.OK}},
		{changed(func(l *api.Lot) { l.Most = 1 }), said{2, 3, api.OK}},
		{changed(func(l *api.Lot) { l.Most = 12 }), said{8, 3, api.OK}},
		{changed(func(l *api.Lot) { l.Most = 0 }), said{0, 0, api.ErrAgainst}},
		{changed(func(l *api.Lot) { l.Pools = append(l.Pools, pool(1, never, 1, 3)) }), said{0, 3, api.ErrAgainst}},
		{changed(func(l *api.Lot) { l.Pools = slices.Insert(l.Pools, 1, pool(1, always)) }), said{0, 1, api.ErrAgainst}},
		// No corks, no planks, no pools.
		{api.Lot{}, said{1, 0, api.OK}},
		{api.Lot{Most: 12}, said{1, 0, api.OK}},
		{api.Lot{Planks: []string{"A"}, Most: 3}, said{1, 0, api.OK}},
		{api.Lot{Pools: []api.Pool{pool(1, never), pool(1, lost)}}, said{1, 2, api.OK}},
		{api.Lot{Pools: []api.Pool{pool(1, never), pool(12, always)}}, said{0, 1, api.ErrAgainst}},
		{corks(12, 12), said{4096, 0, api.OK}},
		{corks(12, 11), said{4095, 0, api.OK}},
		{corks(12, 6), said{2510, 0, api.OK}},
		{corks(12, 1), said{13, 0, api.OK}},
		{corks(12, 0), said{1, 0, api.OK}},
		{corks(3, 12), said{8, 0, api.OK}},
		// A pool with fewer tainted corks than it needs can go either way, one with as many cannot.
		{corks(3, 3, pool(2, always, 0, 1)), said{6, 1, api.OK}},
		{corks(3, 3, pool(2, never, 0, 1)), said{6, 1, api.OK}},
		{corks(3, 3, pool(2, lost, 0, 1)), said{8, 1, api.OK}},
		{corks(3, 3, pool(3, never, 0, 1)), said{8, 1, api.OK}},
		{corks(3, 3, pool(3, never, 0, 1, 2)), said{7, 1, api.OK}},
		{corks(3, 3, pool(12, always, 0)), said{4, 1, api.OK}},
		{corks(3, 3, pool(12, never, 0, 1, 2)), said{8, 1, api.OK}},
		{corks(3, 3, pool(2, always, 0, 1), pool(2, never, 0, 1)), said{4, 2, api.OK}},
		{corks(3, 3, pool(1, always, 0, 1), pool(1, never, 0, 1)), said{0, 1, api.ErrAgainst}},
		{corks(3, 3, pool(2, always, 0, 1), pool(1, never, 0, 1)), said{0, 1, api.ErrAgainst}},
		// The first pool with those before it, not the first one alone.
		{corks(4, 2, pool(1, always, 0), pool(1, always, 1), pool(1, always, 2), pool(1, always, 3)), said{0, 2, api.ErrAgainst}},
		{corks(4, 3, pool(1, always, 0), pool(1, always, 1), pool(1, always, 2), pool(1, always, 3)), said{0, 3, api.ErrAgainst}},
		{corks(4, 4, pool(1, always, 0), pool(1, always, 1), pool(1, always, 2), pool(1, always, 3)), said{1, 4, api.OK}},
		{corks(2, 2, pool(1, always, 0), pool(1, lost, 1), pool(1, never, 0), pool(1, always)), said{0, 2, api.ErrAgainst}},
	} {
		if got := saidOf(x.l); got != x.want {
			t.Error(i, got)
		}
	}
}

// P9.1, P9.2: the chapter's example, and edges.
func TestVerdicts(t *testing.T) {
	for i, x := range []struct {
		l      api.Lot
		corks  []api.Verdict
		fewest []int
		planks []api.Verdict
	}{
		{exampleLot(), []api.Verdict{never, unknown, unknown, unknown, unknown}, []int{1}, []api.Verdict{unknown, unknown}},
		{changed(func(l *api.Lot) { l.Most = 1 }), []api.Verdict{never, unknown, never, unknown, never}, []int{1}, []api.Verdict{unknown, unknown}},
		{changed(func(l *api.Lot) { l.Pools = nil }), slices.Repeat([]api.Verdict{unknown}, 5), nil, []api.Verdict{unknown, unknown}},
		{changed(func(l *api.Lot) { l.Pools, l.Most = nil, 0 }), slices.Repeat([]api.Verdict{never}, 5), nil, []api.Verdict{never, never}},
		{changed(func(l *api.Lot) { l.Pools[1].Need = 1 }), []api.Verdict{never, never, never, always, unknown}, []int{3}, []api.Verdict{never, always}},
		{changed(func(l *api.Lot) { l.Pools[0].Corks = []int{0} }), nil, nil, nil},
		// A plank can be always guilty though none of its corks is.
		{changed(func(l *api.Lot) { l.Pools = []api.Pool{pool(5, always, 3, 4)} }), slices.Repeat([]api.Verdict{unknown}, 5), []int{3}, []api.Verdict{unknown, always}},
		{changed(func(l *api.Lot) { l.Pools, l.Most = []api.Pool{pool(5, always, 3, 4)}, 1 }), []api.Verdict{never, never, never, unknown, unknown}, []int{3}, []api.Verdict{never, always}},
		{changed(func(l *api.Lot) { l.Planks = []string{"C", "A", "B"}; l.Pools = l.Pools[:1] }), slices.Repeat([]api.Verdict{unknown}, 5), []int{0}, []api.Verdict{unknown, unknown, never}},
		// Of several cases with the fewest corks the least list, not the one with the least sum.
		{changed(func(l *api.Lot) {
			l.Pools = []api.Pool{pool(1, always, 1, 2), pool(1, always, 1, 4), pool(1, always, 2, 4)}
		}), []api.Verdict{never, unknown, unknown, never, unknown}, []int{1, 2}, []api.Verdict{always, unknown}},
		{changed(func(l *api.Lot) {
			l.Pools = []api.Pool{pool(1, always, 0, 1), pool(1, always, 1, 4), pool(1, always, 0, 2), pool(1, always, 2, 4)}
		}), []api.Verdict{unknown, unknown, unknown, never, unknown}, []int{0, 4}, []api.Verdict{always, unknown}},
		{api.Lot{}, nil, nil, nil},
		{api.Lot{Planks: []string{"A", "B"}, Most: 12}, nil, nil, []api.Verdict{never, never}},
		{api.Lot{Planks: []string{"A"}, Corks: []int{0}, Most: 1, Pools: []api.Pool{pool(12, always, 0)}}, []api.Verdict{always}, []int{0}, []api.Verdict{always}},
		{api.Lot{Planks: []string{"A"}, Corks: []int{0}, Most: 1, Pools: []api.Pool{pool(1, never, 0)}}, []api.Verdict{never}, nil, []api.Verdict{never}},
		{api.Lot{Planks: []string{"A"}, Corks: []int{0}, Most: 1, Pools: []api.Pool{pool(1, lost, 0)}}, []api.Verdict{unknown}, nil, []api.Verdict{unknown}},
	} {
		want := api.OK
		if len(casesOf(x.l)) == 0 {
			want = api.ErrAgainst
		}
		if corks, e := taint.Corks(x.l); !slices.Equal(corks, x.corks) || e != want {
			t.Error(i, "Corks", corks, e)
		}
		if fewest, e := taint.Fewest(x.l); !slices.Equal(fewest, x.fewest) || e != want {
			t.Error(i, "Fewest", fewest, e)
		}
		if planks, e := taint.Planks(x.l); !slices.Equal(planks, x.planks) || e != want {
			t.Error(i, "Planks", planks, e)
		}
	}
}

// P9.1, P9.2, P0.2, P0.3: all cases counted out.
func TestCountedOut(t *testing.T) {
	r := rand.New(rand.NewSource(1))
	against, seen := 0, map[api.Verdict]int{}
	for i := range 2 * often {
		l := anyLot(r, sizes(i))
		cases := casesOf(l)
		want := said{len(cases), len(l.Pools), api.OK}
		if len(cases) == 0 {
			want = said{0, firstAgainst(l), api.ErrAgainst}
			against++
		}
		if got := saidOf(l); got != want {
			t.Fatal(l, got, want)
		}
		corks, e := taint.Corks(l)
		fewest, f := taint.Fewest(l)
		planks, g := taint.Planks(l)
		if e != want.e || f != want.e || g != want.e {
			t.Fatal(l, e, f, g)
		}
		if want.e != api.OK {
			if corks != nil || fewest != nil || planks != nil {
				t.Fatal(l, corks, fewest, planks)
			}
			continue
		}
		if !slices.Equal(corks, verdictsOf(len(l.Corks), cases)) || !slices.Equal(fewest, cases[0]) || !slices.Equal(planks, verdictsOf(len(l.Planks), plankCases(l, cases))) {
			t.Fatal(l, corks, fewest, planks)
		}
		for _, v := range slices.Concat(corks, planks) {
			seen[v]++
		}
	}
	if against < 100 || against > often || seen[always] < 500 || seen[never] < 500 || seen[unknown] < 500 {
		t.Error("too few of some", against, seen)
	}
}

// knownLess says whether of some verdicts one says less than the one before, or another thing.
func knownLess(before, after []api.Verdict) bool {
	for i, v := range before {
		if v != unknown && after[i] != v {
			return true
		}
	}
	return len(before) != len(after)
}

// verdicts returns those of all corks and planks of a lot, if it has a case.
func verdicts(t *testing.T, l api.Lot) (all []api.Verdict, cases int, ok bool) {
	t.Helper()
	cases, _, e := taint.Cases(l)
	corks, f := taint.Corks(l)
	planks, g := taint.Planks(l)
	if e != f || e != g || e != api.OK && e != api.ErrAgainst {
		t.Fatal(l, e, f, g)
	}
	return slices.Concat(corks, planks), cases, e == api.OK
}

// P9.6: if results are those that pools can have, what is real is a case.
func TestTrueGuilt(t *testing.T) {
	r := rand.New(rand.NewSource(2))
	for i := range 2 * often {
		l, tainted := someLot(r, sizes(i))
		corks, e := taint.Corks(l)
		if e != api.OK {
			t.Fatal(l, tainted, e)
		}
		for cork, v := range corks {
			if is := slices.Contains(tainted, cork); is && v == never || !is && v == always {
				t.Fatal(l, tainted, cork, v)
			}
		}
		guilty := planksWith(l, tainted)
		planks, e := taint.Planks(l)
		for plank, v := range planks {
			if is := slices.Contains(guilty, plank); e != api.OK || is && v == never || !is && v == always {
				t.Fatal(l, tainted, plank, v, e)
			}
		}
		if fewest, e := taint.Fewest(l); e != api.OK || len(fewest) > len(tainted) {
			t.Fatal(l, tainted, fewest, e)
		}
		caught, e := taint.Catch(l)
		if e != api.OK || len(tainted) > 0 && common(caught, guilty) == 0 {
			t.Fatal(l, tainted, caught, e)
		}
	}
}

// P9.8: one more pool, and a smaller Most, never make a verdict less known; lost results never help.
func TestMoreIsKnown(t *testing.T) {
	r := rand.New(rand.NewSource(3))
	compared := map[string]int{}
	compare := func(name string, less, more api.Lot) {
		before, cases, ok := verdicts(t, less)
		after, left, stillOK := verdicts(t, more)
		if !ok && stillOK || left > cases || ok && stillOK && knownLess(before, after) {
			t.Fatal(name, less, before, more, after)
		}
		if ok && stillOK && !slices.Equal(before, after) {
			compared[name]++
		}
	}
	for i := range 2 * often {
		l := anyLot(r, sizes(i))
		if more := copyLot(l); len(l.Pools) < api.MaxPools {
			more.Pools = slices.Insert(more.Pools, r.Intn(len(l.Pools)+1), somePool(r, len(l.Corks)))
			compare("pool", l, more)
		}
		if more := copyLot(l); l.Most > 0 {
			more.Most = r.Intn(l.Most)
			compare("most", l, more)
		}
		if less := copyLot(l); len(l.Pools) > 0 {
			less.Pools[r.Intn(len(l.Pools))].Result = lost
			compare("lost", less, l)
		}
	}
	if compared["pool"] < 100 || compared["most"] < 100 || compared["lost"] < 100 {
		t.Error("too few", compared)
	}
}

// P9.1: the order of pools does not matter but for the first one that contradicts, nor a pool that is there twice.
func TestOrderOfPools(t *testing.T) {
	r := rand.New(rand.NewSource(4))
	for i := range often / 2 {
		l := anyLot(r, sizes(i))
		other := copyLot(l)
		r.Shuffle(len(other.Pools), func(i, j int) { other.Pools[i], other.Pools[j] = other.Pools[j], other.Pools[i] })
		if n := len(other.Pools); 0 < n && n < api.MaxPools {
			other.Pools = append(other.Pools, other.Pools[r.Intn(n)])
		}
		before, cases, ok := verdicts(t, l)
		after, others, isOK := verdicts(t, other)
		if ok != isOK || cases != others || !slices.Equal(before, after) {
			t.Fatal(l, other)
		}
	}
}
