package taint_test

import (
	"math/big"
	"math/bits"
	"math/rand"
	"slices"
	"testing"

	"sobreiro/api"
	"sobreiro/taint"
)

// riskOf returns what Risk has to return for numbers in their ranges.
func riskOf(size, tainted, sample, most int) *big.Rat {
	passed := new(big.Int)
	for found := 0; found <= min(most, sample); found++ {
		if found <= tainted && sample-found <= size-tainted {
			bad := new(big.Int).Binomial(int64(tainted), int64(found))
			good := new(big.Int).Binomial(int64(size-tainted), int64(sample-found))
			passed.Add(passed, bad.Mul(bad, good))
		}
	}
	return new(big.Rat).SetFrac(passed, new(big.Int).Binomial(int64(size), int64(sample)))
}

func risk(t *testing.T, size, tainted, sample, most int) *big.Rat {
	t.Helper()
	num, den, e := taint.Risk(size, tainted, sample, most)
	if e != api.OK || den < 1 || num < 0 || num > den {
		t.Fatal(size, tainted, sample, most, num, den, e)
	}
	x := big.NewRat(int64(num), int64(den))
	if !x.Num().IsInt64() || x.Num().Int64() != int64(num) || x.Denom().Int64() != int64(den) {
		t.Fatal("not in lowest terms", size, tainted, sample, most, num, den)
	}
	return x
}

// P9.4: the chapter's example, and edges.
func TestRisk(t *testing.T) {
	for i, x := range []struct{ size, tainted, sample, most, num, den int }{
		{10, 2, 3, 0, 7, 15},
		{10, 2, 3, 1, 14, 15},
		{10, 2, 3, 2, 1, 1},
		{10, 2, 3, 3, 1, 1},
		{10, 2, 3, 40, 1, 1},
		{10, 0, 10, 0, 1, 1},
		{10, 1, 10, 0, 0, 1},
		{10, 1, 9, 0, 1, 10},
		{10, 10, 1, 0, 0, 1},
		{10, 10, 0, 0, 1, 1},
		{10, 10, 10, 9, 0, 1},
		{10, 10, 10, 10, 1, 1},
		{10, 8, 3, 0, 0, 1}, // only two are not tainted
		{10, 8, 3, 1, 1, 15},
		{10, 5, 3, 0, 1, 12},
		{1, 0, 0, 0, 1, 1},
		{1, 1, 0, 0, 1, 1},
		{1, 0, 1, 0, 1, 1},
		{1, 1, 1, 0, 0, 1},
		{1, 1, 1, 1, 1, 1},
		{40, 1, 20, 0, 1, 2},
		{40, 20, 20, 0, 1, 137846528820},
		{40, 40, 40, 39, 0, 1},
		{40, 40, 40, 40, 1, 1},
		{40, 20, 20, 19, 137846528819, 137846528820},
	} {
		if num, den, e := taint.Risk(x.size, x.tainted, x.sample, x.most); num != x.num || den != x.den || e != api.OK {
			t.Error(i, num, den, e)
		}
	}
}

// P9.4: all samples of small lots drawn.
func TestRiskCountedOut(t *testing.T) {
	for size := 1; size <= 8; size++ {
		for tainted := 0; tainted <= size; tainted++ {
			passed := map[[2]int]int{} // by the sample and by how many of it are tainted
			all := map[int]int{}
			for drawn := range uint(1) << size {
				sample := bits.OnesCount(drawn)
				passed[[2]int{sample, bits.OnesCount(drawn & (1<<tainted - 1))}]++
				all[sample]++
			}
			for sample := 0; sample <= size; sample++ {
				sum := 0
				for most := 0; most <= size+1; most++ {
					sum += passed[[2]int{sample, most}]
					if x := risk(t, size, tainted, sample, most); x.Cmp(big.NewRat(int64(sum), int64(all[sample]))) != 0 {
						t.Fatal(size, tainted, sample, most, x)
					}
				}
			}
		}
	}
}

// P9.4, P9.8: lots of all sizes against another reckoning, and what never makes it more likely that a lot is passed.
func TestRiskOfAll(t *testing.T) {
	r := rand.New(rand.NewSource(10))
	for i := range 4 * often {
		size := 1 + r.Intn(api.MaxLot)
		if i%4 == 0 {
			size = api.MaxLot
		}
		tainted, sample := r.Intn(size+1), r.Intn(size+1)
		most := r.Intn([]int{min(tainted, sample) + 1, api.MaxLot + 1}[r.Intn(2)])
		x := risk(t, size, tainted, sample, most)
		if x.Cmp(riskOf(size, tainted, sample, most)) != 0 {
			t.Fatal(size, tainted, sample, most, x)
		}
		if tainted < size && risk(t, size, tainted+1, sample, most).Cmp(x) > 0 {
			t.Fatal("more tainted corks", size, tainted, sample, most)
		}
		if sample < size && risk(t, size, tainted, sample+1, most).Cmp(x) > 0 {
			t.Fatal("a larger sample", size, tainted, sample, most)
		}
		if most > 0 && risk(t, size, tainted, sample, most-1).Cmp(x) > 0 {
			t.Fatal("a smaller most", size, tainted, sample, most)
		}
	}
}

// P9.4: numbers out of their ranges, alone and together.
func TestRiskErrors(t *testing.T) {
	fails := func(size, tainted, sample, most int) {
		t.Helper()
		if num, den, e := taint.Risk(size, tainted, sample, most); num != 0 || den != 0 || e != api.ErrValue {
			t.Error(size, tainted, sample, most, num, den, e)
		}
	}
	for _, n := range outside(1, api.MaxLot) {
		fails(n, 0, 0, 0)
		fails(n, n, n, n)
	}
	for _, n := range outside(0, 10) {
		fails(10, n, 3, 1)
		fails(10, 3, n, 1)
		fails(10, n, n, 1)
	}
	for _, n := range outside(0, api.MaxLot) {
		fails(10, 3, 3, n)
	}
}

// drawn is what Sample says.
type drawn struct {
	sample, most int
	found        bool
}

// sampleOf returns what Sample has to return for numbers in their ranges.
func sampleOf(size, good, bad, alpha, beta int) drawn {
	for sample := 0; sample <= size; sample++ {
		for most := 0; most <= sample; most++ {
			if keeps(size, good, bad, alpha, beta, sample, most) {
				return drawn{sample, most, true}
			}
		}
	}
	return drawn{}
}

// keeps says whether a plan keeps both risks.
func keeps(size, good, bad, alpha, beta, sample, most int) bool {
	return riskOf(size, good, sample, most).Cmp(big.NewRat(int64(1000-alpha), 1000)) >= 0 && riskOf(size, bad, sample, most).Cmp(big.NewRat(int64(beta), 1000)) <= 0
}

// P9.4: the chapter's example, and edges.
func TestSample(t *testing.T) {
	for i, x := range []struct {
		size, good, bad, alpha, beta int
		want                         drawn
	}{
		{10, 0, 5, 50, 100, drawn{3, 0, true}},
		{10, 0, 5, 50, 84, drawn{3, 0, true}},
		{10, 0, 5, 50, 83, drawn{4, 0, true}}, // 10 / 120 is more than 83 thousandths
		{10, 0, 5, 0, 0, drawn{6, 0, true}},
		{10, 0, 10, 0, 0, drawn{1, 0, true}},
		{10, 0, 1, 0, 0, drawn{10, 0, true}},
		{10, 0, 1, 0, 100, drawn{9, 0, true}}, // exactly 1 / 10
		{10, 0, 1, 0, 99, drawn{10, 0, true}},
		{10, 1, 2, 100, 0, drawn{10, 1, true}},
		{10, 1, 10, 100, 0, drawn{1, 0, true}}, // exactly 9 / 10
		{10, 1, 10, 99, 0, drawn{2, 1, true}},
		{10, 4, 5, 0, 0, drawn{10, 4, true}},
		// A sample of nothing passes all lots.
		{10, 0, 5, 0, 1000, drawn{0, 0, true}},
		{10, 5, 5, 1000, 1000, drawn{0, 0, true}},
		{10, 0, 0, 0, 1000, drawn{0, 0, true}},
		{10, 0, 0, 1000, 999, drawn{}}, // a lot without tainted corks is always passed
		{10, 5, 5, 0, 999, drawn{}},
		{10, 5, 5, 1000, 0, drawn{6, 0, true}},
		{10, 5, 5, 500, 500, drawn{1, 0, true}},
		{10, 5, 5, 499, 500, drawn{}},
		{1, 0, 1, 0, 0, drawn{1, 0, true}},
		{1, 0, 0, 0, 0, drawn{}},
		{1, 1, 1, 1000, 0, drawn{1, 0, true}},
		{40, 0, 1, 0, 0, drawn{40, 0, true}},
		{40, 19, 20, 0, 0, drawn{40, 19, true}},
		{40, 39, 40, 0, 0, drawn{40, 39, true}},
	} {
		sample, most, found, e := taint.Sample(x.size, x.good, x.bad, x.alpha, x.beta)
		if got := (drawn{sample, most, found}); got != x.want || got != sampleOf(x.size, x.good, x.bad, x.alpha, x.beta) || e != api.OK {
			t.Error(i, got, e)
		}
	}
}

// P9.4, P9.8, P0.3: all plans tried.
func TestSampleOfAll(t *testing.T) {
	r := rand.New(rand.NewSource(11))
	found := map[bool]int{}
	for i := range often / 4 {
		size := 1 + r.Intn(12)
		if i%10 == 0 {
			size = 1 + r.Intn(api.MaxLot)
		}
		numbers := []int{r.Intn(size + 1), r.Intn(size + 1)}
		slices.Sort(numbers)
		alpha, beta := r.Intn([]int{100, 1001}[r.Intn(2)]), r.Intn([]int{100, 1001}[r.Intn(2)])
		want := sampleOf(size, numbers[0], numbers[1], alpha, beta)
		sample, most, is, e := taint.Sample(size, numbers[0], numbers[1], alpha, beta)
		if got := (drawn{sample, most, is}); got != want || e != api.OK {
			t.Fatal(size, numbers, alpha, beta, got, e, want)
		}
		found[is]++
	}
	if found[true] < 100 || found[false] < 100 {
		t.Error("too few", found)
	}
}

// P9.4: risks that a plan keeps exactly.
func TestSampleAtTheEdge(t *testing.T) {
	exact := 0
	for size := 1; size <= 10; size++ {
		for bad := 0; bad <= size; bad++ {
			for good := 0; good <= bad; good++ {
				for sample := 0; sample <= size; sample++ {
					passed := risk(t, size, bad, sample, 0)
					beta := new(big.Rat).Mul(passed, big.NewRat(1000, 1))
					if !beta.IsInt() {
						continue
					}
					exact++
					n := int(beta.Num().Int64())
					for beta := max(0, n-1); beta <= n; beta++ {
						want := sampleOf(size, good, bad, 1000-n, beta)
						got, most, found, e := taint.Sample(size, good, bad, 1000-n, beta)
						if (drawn{got, most, found}) != want || e != api.OK {
							t.Fatal(size, good, bad, n, beta, got, most, found, e, want)
						}
					}
				}
			}
		}
	}
	if exact < 500 {
		t.Error("too few", exact)
	}
}

// P9.4: numbers out of their ranges, alone and together.
func TestSampleErrors(t *testing.T) {
	fails := func(size, good, bad, alpha, beta int) {
		t.Helper()
		if sample, most, found, e := taint.Sample(size, good, bad, alpha, beta); sample != 0 || most != 0 || found || e != api.ErrValue {
			t.Error(size, good, bad, alpha, beta, sample, most, found, e)
		}
	}
	for _, n := range outside(1, api.MaxLot) {
		fails(n, 0, 0, 0, 1000)
		fails(n, 0, n, 0, 1000)
		fails(n, n, n, n, n)
	}
	for _, n := range outside(0, 10) {
		fails(10, n, 5, 50, 100)
		fails(10, 0, n, 50, 100)
		fails(10, n, n, 50, 100)
	}
	fails(10, 5, 4, 50, 100)
	fails(10, 10, 0, 50, 1000)
	for _, n := range outside(0, 1000) {
		fails(10, 0, 5, n, 100)
		fails(10, 0, 5, 50, n)
		fails(10, 0, 5, n, n)
		fails(10, 5, 4, n, n)
	}
}
