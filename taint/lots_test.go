package taint_test

import (
	"math"
	"math/rand"
	"slices"

	"sobreiro/api"
)

// often is how many lots are tried out.
const often = 2000

// outside returns numbers that are not from low to high.
func outside(low, high int) []int {
	return []int{low - 1, high + 1, -1000000007, 1000000007, math.MinInt, math.MaxInt}
}

func pool(need int, result api.Verdict, corks ...int) api.Pool {
	return api.Pool{Corks: corks, Need: need, Result: result}
}

// exampleLot is the lot of the chapter's examples.
func exampleLot() api.Lot {
	return api.Lot{
		Planks: []string{"A", "B"},
		Corks:  []int{0, 0, 0, 1, 1},
		Most:   2,
		Pools:  []api.Pool{pool(1, api.VdAlways, 0, 1, 3), pool(2, api.VdNever, 1, 2), pool(1, api.VdNever, 0)},
	}
}

// changed returns the example's lot, changed.
func changed(change func(l *api.Lot)) api.Lot {
	l := exampleLot()
	change(&l)
	return l
}

func copyPools(pools []api.Pool) []api.Pool {
	pools = slices.Clone(pools)
	for i := range pools {
		pools[i].Corks = slices.Clone(pools[i].Corks)
	}
	return pools
}

func copyLot(l api.Lot) api.Lot {
	return api.Lot{Planks: slices.Clone(l.Planks), Corks: slices.Clone(l.Corks), Most: l.Most, Pools: copyPools(l.Pools)}
}

func samePool(a, b api.Pool) bool {
	return slices.Equal(a.Corks, b.Corks) && a.Need == b.Need && a.Result == b.Result
}

func sameLot(a, b api.Lot) bool {
	return slices.Equal(a.Planks, b.Planks) && slices.Equal(a.Corks, b.Corks) && a.Most == b.Most && slices.EqualFunc(a.Pools, b.Pools, samePool)
}

// lists returns all ascending lists of at most so many of the numbers from 0, the shorter ones first, of those that are as long the least one first.
func lists(numbers, most int) (all [][]int) {
	longest := [][]int{nil}
	for len(longest) > 0 {
		all = append(all, longest...)
		var longer [][]int
		for _, l := range longest {
			from := 0
			if len(l) > 0 {
				from = l[len(l)-1] + 1
			}
			for n := from; n < numbers && len(l) < most; n++ {
				longer = append(longer, append(slices.Clone(l), n))
			}
		}
		longest = longer
	}
	return all
}

// common is how many numbers are in both of two lists.
func common(a, b []int) (many int) {
	for _, n := range a {
		if slices.Contains(b, n) {
			many++
		}
	}
	return many
}

// canBe says whether a pool can have a result if some corks are tainted, as the chapter tells it.
func canBe(p api.Pool, result api.Verdict, tainted []int) bool {
	switch n := common(tainted, p.Corks); result {
	case api.VdAlways:
		return n > 0
	case api.VdNever:
		return n < p.Need
	default:
		return true
	}
}

// isCase says whether a list of corks is a case of a lot.
func isCase(l api.Lot, tainted []int) bool {
	for _, p := range l.Pools {
		if !canBe(p, p.Result, tainted) {
			return false
		}
	}
	return len(tainted) <= l.Most
}

// casesOf returns all cases of a lot, those with the fewest corks first, of those with as many the least list first.
func casesOf(l api.Lot) (cases [][]int) {
	for _, tainted := range lists(len(l.Corks), l.Most) {
		if isCase(l, tainted) {
			cases = append(cases, tainted)
		}
	}
	return cases
}

// firstAgainst returns the index of the first pool from which on a lot has no case, or -1 if it has one.
func firstAgainst(l api.Lot) int {
	for i := range l.Pools {
		upTo := l
		upTo.Pools = l.Pools[:i+1]
		if len(casesOf(upTo)) == 0 {
			return i
		}
	}
	return -1
}

// planksWith returns the planks out of which some corks were punched, ascending.
func planksWith(l api.Lot, corks []int) (planks []int) {
	for plank := range l.Planks {
		if slices.ContainsFunc(corks, func(cork int) bool { return l.Corks[cork] == plank }) {
			planks = append(planks, plank)
		}
	}
	return planks
}

// verdictsOf returns the verdicts of so many suspects of which each case has some.
func verdictsOf(many int, cases [][]int) (verdicts []api.Verdict) {
	for s := range many {
		in, out := false, false
		for _, l := range cases {
			is := slices.Contains(l, s)
			in, out = in || is, out || !is
		}
		v := api.VdUnknown
		switch {
		case !out:
			v = api.VdAlways
		case !in:
			v = api.VdNever
		}
		verdicts = append(verdicts, v)
	}
	return verdicts
}

// plankCases returns the planks of each of several cases.
func plankCases(l api.Lot, cases [][]int) (planks [][]int) {
	for _, tainted := range cases {
		planks = append(planks, planksWith(l, tainted))
	}
	return planks
}

// catches says whether each case that is not empty has a cork out of one of some planks.
func catches(l api.Lot, cases [][]int, planks []int) bool {
	for _, tainted := range cases {
		if len(tainted) > 0 && common(planksWith(l, tainted), planks) == 0 {
			return false
		}
	}
	return true
}

// leftOf returns how many cases are left if a pool turns out so.
func leftOf(cases [][]int, p api.Pool, result api.Verdict) (left int) {
	for _, tainted := range cases {
		if canBe(p, result, tainted) {
			left++
		}
	}
	return left
}

// results are all results of pools.
func results() []api.Verdict { return []api.Verdict{api.VdAlways, api.VdNever, api.VdUnknown} }

// size is how large lots are at most.
type size struct{ planks, corks, pools int }

func small() size { return size{4, 7, 5} }

func full() size { return size{api.MaxPlanks, api.MaxTested, api.MaxPools} }

// someOf returns some of the numbers from 0, ascending.
func someOf(r *rand.Rand, numbers, most int) (l []int) {
	l = r.Perm(numbers)[:r.Intn(min(numbers, most)+1)]
	slices.Sort(l)
	return l
}

// somePool returns a pool of some of so many corks, and any result.
func somePool(r *rand.Rand, corks int) api.Pool {
	need := 1 + r.Intn(3)
	if r.Intn(8) == 0 {
		need = 1 + r.Intn(api.MaxTested)
	}
	return pool(need, results()[r.Intn(3)], someOf(r, corks, []int{2, 5, corks}[r.Intn(3)])...)
}

// somePools returns pools of some of so many corks, from least to most of them.
func somePools(r *rand.Rand, corks, least, most int) (pools []api.Pool) {
	for range least + r.Intn(most-least+1) {
		pools = append(pools, somePool(r, corks))
	}
	return pools
}

// tested gives a pool a result that it can have if some corks are tainted, now and then none.
func tested(r *rand.Rand, p api.Pool, tainted []int) api.Pool {
	p.Result = api.VdUnknown
	if r.Intn(8) > 0 {
		can := slices.DeleteFunc(results()[:2], func(v api.Verdict) bool { return !canBe(p, v, tainted) })
		p.Result = can[r.Intn(len(can))]
	}
	return p
}

// someLot returns a lot, and its corks that really are tainted.
func someLot(r *rand.Rand, s size) (l api.Lot, tainted []int) {
	for i := range 1 + r.Intn(s.planks) {
		l.Planks = append(l.Planks, string(rune('A'+i)))
	}
	for range r.Intn(s.corks + 1) {
		l.Corks = append(l.Corks, r.Intn(len(l.Planks)))
	}
	l.Most = r.Intn([]int{3, 5, api.MaxTested + 1}[r.Intn(3)])
	tainted = someOf(r, len(l.Corks), l.Most)
	for _, p := range somePools(r, len(l.Corks), 0, s.pools) {
		l.Pools = append(l.Pools, tested(r, p, tainted))
	}
	return l, tainted
}

// anyLot returns a lot whose results may contradict each other.
func anyLot(r *rand.Rand, s size) api.Lot {
	l, _ := someLot(r, s)
	for i := range l.Pools {
		if r.Intn(6) == 0 {
			l.Pools[i].Result = results()[r.Intn(3)]
		}
	}
	return l
}

// sizes returns a size: mostly small, now and then full.
func sizes(i int) size {
	if i%10 == 0 {
		return full()
	}
	return small()
}
