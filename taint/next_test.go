package taint_test

import (
	"math/rand"
	"slices"
	"testing"

	"sobreiro/api"
	"sobreiro/taint"
)

// P9.3: the chapter's example, and edges.
func TestCatch(t *testing.T) {
	three := func(pools ...api.Pool) api.Lot {
		return api.Lot{Planks: []string{"A", "B", "C"}, Corks: []int{0, 1, 2, 0, 1, 2}, Most: 2, Pools: pools}
	}
	for i, x := range []struct {
		l    api.Lot
		want []int
		e    api.Errno
	}{
		{exampleLot(), []int{0, 1}, api.OK},
		{changed(func(l *api.Lot) { l.Pools[1].Need = 1 }), []int{1}, api.OK},
		{changed(func(l *api.Lot) { l.Corks = []int{1, 1, 1, 1, 1} }), []int{1}, api.OK},
		{changed(func(l *api.Lot) { l.Corks = []int{1, 0, 0, 0, 1} }), []int{0}, api.OK},
		{changed(func(l *api.Lot) { l.Most = 0 }), nil, api.ErrAgainst},
		// The empty case needs no plank.
		{api.Lot{}, nil, api.OK},
		{api.Lot{Planks: []string{"A"}, Most: 12}, nil, api.OK},
		{changed(func(l *api.Lot) { l.Pools, l.Most = nil, 0 }), nil, api.OK},
		{changed(func(l *api.Lot) { l.Pools = []api.Pool{pool(1, never, 0, 1, 2, 3, 4)} }), nil, api.OK},
		{changed(func(l *api.Lot) { l.Pools = []api.Pool{pool(1, never, 0, 1, 2, 3)} }), []int{1}, api.OK},
		{changed(func(l *api.Lot) { l.Pools = []api.Pool{pool(1, never, 1, 2, 3, 4)} }), []int{0}, api.OK},
		// Each case has corks out of several planks, of which some are enough.
		{three(), []int{0, 1, 2}, api.OK},
		{three(pool(1, always, 0), pool(1, always, 2)), []int{0}, api.OK},
		{three(pool(1, always, 1), pool(1, always, 2)), []int{1}, api.OK},
		{three(pool(1, always, 1, 4)), []int{1}, api.OK},
		{three(pool(1, always, 1, 2)), []int{1, 2}, api.OK},
		{three(pool(1, always, 0, 2)), []int{0, 2}, api.OK},
		{three(pool(1, always, 0, 1), pool(1, always, 1, 2), pool(1, always, 0, 2)), []int{0, 1}, api.OK},
		{three(pool(1, always, 0, 3), pool(1, always, 1, 2)), []int{0}, api.OK},
	} {
		if l, e := taint.Catch(x.l); !slices.Equal(l, x.want) || e != x.e {
			t.Error(i, l, e)
		}
	}
}

// P9.3, P9.7, P0.3: all sets of planks tried, and each cork of the fewest.
func TestCatchOfAll(t *testing.T) {
	r := rand.New(rand.NewSource(5))
	lengths := map[int]int{}
	for i := range 2 * often {
		s := sizes(i)
		if i%4 == 1 {
			s = size{api.MaxPlanks, api.MaxTested, 2} // of few pools little is known
		}
		l := anyLot(r, s)
		cases := casesOf(l)
		planks, e := taint.Catch(l)
		if len(cases) == 0 {
			if planks != nil || e != api.ErrAgainst {
				t.Fatal(l, planks, e)
			}
			continue
		}
		all := lists(len(l.Planks), len(l.Planks))
		best := all[slices.IndexFunc(all, func(planks []int) bool { return catches(l, cases, planks) })]
		if !slices.Equal(planks, best) || e != api.OK {
			t.Fatal(l, planks, e, best)
		}
		for i := range planks {
			if catches(l, cases, slices.Delete(slices.Clone(planks), i, i+1)) {
				t.Fatal(l, planks, i)
			}
		}
		lengths[len(planks)]++
	}
	if lengths[0] < 50 || lengths[1] < 200 || lengths[2] < 200 || lengths[3] < 100 || lengths[4] < 50 || lengths[6] < 5 {
		t.Error("too few of some lengths", lengths)
	}
}

// P9.7: what Fewest returns is a case, and none has fewer corks.
func TestFewestIsCase(t *testing.T) {
	r := rand.New(rand.NewSource(6))
	for i := range often {
		l, _ := someLot(r, sizes(i))
		fewest, e := taint.Fewest(l)
		if e != api.OK || !isCase(l, fewest) || !slices.IsSorted(fewest) {
			t.Fatal(l, fewest, e)
		}
		if less := copyLot(l); len(fewest) > 0 {
			less.Most = len(fewest) - 1
			if cases, _, e := taint.Cases(less); cases != 0 || e != api.ErrAgainst {
				t.Fatal(less, cases, e)
			}
		}
	}
}

// P9.3: the chapter's example, and edges.
func TestNext(t *testing.T) {
	// Cases of the example's lot: {1}, {3}, {1, 3}, {1, 4}, {2, 3}, {3, 4}.
	for i, x := range []struct {
		pools      []api.Pool
		pool, left int
	}{
		{[]api.Pool{pool(1, lost, 4), pool(1, lost, 3)}, 0, 4},
		{[]api.Pool{pool(1, lost, 3), pool(1, lost, 4)}, 0, 4},
		{[]api.Pool{pool(1, always, 3), pool(1, never, 4)}, 0, 4},
		{[]api.Pool{pool(1, lost, 0), pool(1, lost, 4)}, 1, 4},
		{[]api.Pool{pool(1, lost, 0), pool(1, lost, 4), pool(1, lost, 1)}, 2, 3}, // three have the cork 1, three do not
		{[]api.Pool{pool(1, lost, 0), pool(1, lost, 1), pool(1, lost, 2, 4), pool(1, lost, 1)}, 1, 3},
		{[]api.Pool{pool(2, lost, 1), pool(1, lost, 3)}, 1, 4}, // it may not be detected in any case
		{[]api.Pool{pool(2, lost, 1)}, 0, 6},
		{[]api.Pool{pool(1, lost)}, 0, 6}, // nothing is detected in no cork
		{[]api.Pool{pool(1, lost, 0, 1, 2, 3, 4)}, 0, 6},
		{[]api.Pool{pool(2, lost, 0, 1, 2, 3, 4)}, 0, 6},
		{[]api.Pool{pool(2, lost, 2, 3, 4), pool(1, lost, 2, 3, 4)}, 0, 5}, // detected in all but {1}, not detected in four
		{[]api.Pool{pool(1, lost, 2, 3, 4), pool(3, lost, 1, 3, 4)}, 0, 5},
		{[]api.Pool{pool(1, lost, 0), pool(1, always, 0), pool(3, lost, 0)}, 0, 6},
		{slices.Repeat([]api.Pool{pool(1, never, 4)}, 12), 0, 4},
		{append(slices.Repeat([]api.Pool{pool(1, never, 4)}, 11), pool(1, lost, 2, 4)), 11, 3},
	} {
		if n, left, e := taint.Next(exampleLot(), x.pools); n != x.pool || left != x.left || e != api.OK {
			t.Error(i, n, left, e)
		}
	}
	// One case alone, which is empty.
	if n, left, e := taint.Next(api.Lot{}, []api.Pool{pool(3, lost), pool(1, lost)}); n != 0 || left != 1 || e != api.OK {
		t.Error(n, left, e)
	}
}

// nextOf returns what Next has to return.
func nextOf(cases [][]int, pools []api.Pool) (pool, left int) {
	left = -1
	for i, p := range pools {
		if n := max(leftOf(cases, p, always), leftOf(cases, p, never)); left < 0 || n < left {
			pool, left = i, n
		}
	}
	return pool, left
}

// P9.3, P9.8: the first of the best pools; however it turns out, at most as many cases are left, and with one result as many.
func TestNextOfAll(t *testing.T) {
	r := rand.New(rand.NewSource(7))
	chosen, against := map[int]int{}, 0
	for i := range 2 * often {
		l := anyLot(r, sizes(i))
		pools := somePools(r, len(l.Corks), 1, []int{3, api.MaxPools}[i%2])
		cases := casesOf(l)
		n, left, e := taint.Next(l, pools)
		if len(cases) == 0 {
			if against++; n != 0 || left != 0 || e != api.ErrAgainst {
				t.Fatal(l, pools, n, left, e)
			}
			continue
		}
		if best, least := nextOf(cases, pools); n != best || left != least || e != api.OK {
			t.Fatal(l, pools, n, left, e, best, least)
		}
		chosen[min(n, 3)]++
		if len(l.Pools) == api.MaxPools {
			continue
		}
		most := 0
		for _, result := range results()[:2] {
			after := copyLot(l)
			after.Pools = append(after.Pools, pool(pools[n].Need, result, pools[n].Corks...))
			cases, _, _ := taint.Cases(after)
			most = max(most, cases)
		}
		if most != left {
			t.Fatal(l, pools, n, left, most)
		}
	}
	if against < 100 || chosen[0] < 500 || chosen[1] < 300 || chosen[2] < 200 || chosen[3] < 100 {
		t.Error("too few", chosen, against)
	}
}

// P9.3: the results of pools that could be tested do not matter.
func TestNextWithoutResults(t *testing.T) {
	r := rand.New(rand.NewSource(8))
	for i := range often / 2 {
		l, _ := someLot(r, sizes(i))
		pools := somePools(r, len(l.Corks), 1, api.MaxPools)
		n, left, e := taint.Next(l, pools)
		other := copyPools(pools)
		for i := range other {
			other[i].Result = results()[r.Intn(3)]
		}
		if m, also, f := taint.Next(l, other); m != n || also != left || f != e {
			t.Fatal(l, pools, n, left, e, m, also, f)
		}
	}
}

// P9.3: however the goroutines go, the answer is the same.
func TestSameNext(t *testing.T) {
	r := rand.New(rand.NewSource(9))
	for range 100 {
		l, _ := someLot(r, full())
		pools := slices.Repeat(somePools(r, len(l.Corks), 1, 4), 3)
		n, left, _ := taint.Next(l, pools)
		for range 20 {
			if m, also, e := taint.Next(l, pools); m != n || also != left || e != api.OK {
				t.Fatal(l, pools, n, left, m, also, e)
			}
		}
	}
}
