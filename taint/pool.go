package taint

import (
	"cmp"
	"slices"
	"sync"

	"sobreiro/api"
)

// outcome is a result of pools, its letter in texts, and what says whether it fits so many tainted corks in a pool.
type outcome struct {
	result api.Verdict
	letter string
	fits   func(tainted, need int) bool
}

// outcomes returns all results. From one tainted cork on the taint can be detected, from Need on it surely is.
func outcomes() [3]outcome {
	return [...]outcome{
		{api.VdAlways, "P", func(tainted, need int) bool { return tainted >= 1 }},
		{api.VdNever, "N", func(tainted, need int) bool { return tainted < need }},
		{api.VdUnknown, "L", func(tainted, need int) bool { return true }},
	}
}

// firstOutcome returns the first outcome of which something is so.
func firstOutcome(isSo func(o outcome) bool) (o outcome, found bool) {
	for _, o := range outcomes() {
		if isSo(o) {
			return o, true
		}
	}
	return outcome{}, false
}

func outcomeOf(result api.Verdict) (o outcome, found bool) {
	return firstOutcome(func(o outcome) bool { return o.result == result })
}

func outcomeWith(letter string) (o outcome, found bool) {
	return firstOutcome(func(o outcome) bool { return o.letter == letter })
}

// test is a pool that has been tested.
type test struct {
	outcome
	corks set
	need  int
}

// testOf returns the test of a pool that has a result.
func testOf(p api.Pool, result api.Verdict) test {
	o, _ := outcomeOf(result)
	return test{o, setOf(p.Corks), p.Need}
}

// agrees says whether the test can have its result if some corks are tainted.
func (t test) agrees(tainted set) bool {
	return t.fits((tainted & t.corks).size(), t.need)
}

// trial is a pool, and how many cases are left at most after it.
type trial struct{ pool, left int }

// compareTrials puts the fewer cases first, then the earlier pool.
func compareTrials(a, b trial) int {
	return cmp.Or(cmp.Compare(a.left, b.left), cmp.Compare(a.pool, b.pool))
}

// bestTrial tries all pools, each by a goroutine of its own.
func bestTrial(pools []api.Pool, cases []set) trial {
	var trials []trial // in any order
	var guard sync.Mutex
	var tries sync.WaitGroup
	for i, p := range pools {
		tries.Go(func() {
			t := trial{i, leftAfter(p, cases)}
			guard.Lock()
			defer guard.Unlock()
			trials = append(trials, t)
		})
	}
	tries.Wait()
	return slices.MinFunc(trials, compareTrials)
}

// leftAfter returns how many cases are left at most after a pool, detected or not.
func leftAfter(p api.Pool, cases []set) int {
	return max(agreeing(testOf(p, api.VdAlways), cases), agreeing(testOf(p, api.VdNever), cases))
}

// agreeing returns how many cases agree with a test.
func agreeing(t test, cases []set) (many int) {
	for _, tainted := range cases {
		if t.agrees(tainted) {
			many++
		}
	}
	return many
}
