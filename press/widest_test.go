package press_test

import (
	"math/rand"
	"testing"

	"sobreiro/api"
	"sobreiro/press"
)

// widestOf returns what Widest says of a valid question.
func widestOf(t *testing.T, q question) [2]int {
	t.Helper()
	sure, possible, e := press.Widest(q.p, q.c, q.n.Depth)
	if e != api.OK {
		t.Fatal(q, e)
	}
	return [2]int{sure, possible}
}

// P8.2: the chapter's example, and bores at the ends.
func TestWidest(t *testing.T) {
	for i, x := range []struct {
		change func(q *question)
		want   [2]int
	}{
		{func(q *question) {}, [2]int{2060, 2227}},
		{func(q *question) { q.c.Density = bounds(200, 300) }, [2]int{2132, 2301}},
		{func(q *question) { q.c.Density = bounds(180, 210) }, [2]int{2060, 2301}}, // the worse step and the better one
		{func(q *question) { q.p.Crush = 660 }, [2]int{-1, 2202}},                  // of at most 2424, and 2424 * 950 / 1000 = 2302
		{func(q *question) { q.p.Crush = 667 }, [2]int{-1, -1}},
		{func(q *question) { q.n.Depth = 4499 }, [2]int{-1, 2227}},
		{func(q *question) { q.n.Depth = 4399 }, [2]int{-1, -1}},
		{func(q *question) { q.n.Depth = 0 }, [2]int{-1, -1}},
		{func(q *question) { q.n.Depth = 8000 }, [2]int{2060, 2227}},
		{func(q *question) { q.p.Limit = 600 }, [2]int{-1, 2227}},
		{func(q *question) { q.p.Limit = 444 }, [2]int{-1, -1}},
		{func(q *question) { q.p.Grip = 0 }, [2]int{2160, 2327}},
		{func(q *question) { q.p.Grip = 2160 }, [2]int{0, 167}},
		{func(q *question) { q.p.Grip = 2161 }, [2]int{-1, 166}},
		{func(q *question) { q.p.Grip = 2327 }, [2]int{-1, 0}},
		{func(q *question) { q.p.Grip = 2328 }, [2]int{-1, -1}},
		{func(q *question) { q.p.Grip, q.p.Steps[0].Springs = 0, bounds(0, 1000) }, [2]int{0, 2450}},
		{func(q *question) {
			q.p.Grip, q.p.Crush, q.p.Steps[0].Springs, q.c.Width = 0, 1, known(1000), bounds(3800, 4000)
		}, [2]int{3800, 4000}},
		{func(q *question) {
			q.p.Grip, q.p.Crush, q.p.Steps[0].Springs, q.c.Width = 0, 1, known(1000), known(4000)
		}, [2]int{4000, 4000}},
		// The first step possibly seals, the second one never does.
		{func(q *question) { q.c.Density, q.p.Steps[1].Breathes = bounds(180, 210), known(100000) }, [2]int{-1, 2227}},
	} {
		if w := widestOf(t, changed(x.change)); w != x.want {
			t.Error(i, w)
		}
	}
}

// P8.2: all bores tried one by one.
func TestWidestOfAll(t *testing.T) {
	r := rand.New(rand.NewSource(7))
	times := map[bool]int{}
	for i := range often / 2 {
		q := someSmall(r)
		if i%2 == 0 {
			q = someGreat(r)
		}
		want := [2]int{-1, -1}
		for bore := range api.MaxWidth + 1 {
			q.n.Bore = known(bore)
			verdict := q.join(q.reckonStep).verdict
			if verdict == api.VdAlways {
				want[0] = bore
			}
			if verdict != api.VdNever {
				want[1] = bore
			}
		}
		got := widestOf(t, q)
		if got != want {
			t.Fatal(q, got, want)
		}
		times[got[0] >= 0]++
	}
	if min(times[true], times[false]) < often/20 {
		t.Error("too few", times)
	}
}

// P8.2, P8.8: each narrower bore is sealed as well, and no wider one.
func TestWidestSeals(t *testing.T) {
	r := rand.New(rand.NewSource(8))
	for i := range 2 * often {
		q := someSmall(r)
		if i%2 == 0 {
			q = someGreat(r)
		}
		w := widestOf(t, q)
		if w[0] > w[1] {
			t.Fatal(q, w)
		}
		for _, bore := range []int{0, w[0] - 1, w[0], w[0] + 1, w[1] - 1, w[1], w[1] + 1, r.Intn(api.MaxWidth + 1), api.MaxWidth} {
			if bore < 0 || bore > api.MaxWidth {
				continue
			}
			q.n.Bore = known(bore)
			want := api.VdNever
			switch {
			case bore <= w[0]:
				want = api.VdAlways
			case bore <= w[1]:
				want = api.VdUnknown
			}
			if s := sealOf(t, q); s.verdict != want {
				t.Fatal(q, w, s)
			}
		}
	}
}
