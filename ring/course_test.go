package ring

import (
	"slices"
	"testing"

	"sobreiro/api"
)

// P2.2, P0.3: the courses come in their order, each one once, so that the first of those with the least sum is the least one.
func TestCoursesComeInOrder(t *testing.T) {
	const d, m, w = api.RgDry, api.RgMean, api.RgWet
	l := coursesOf(api.Climate{
		Years: []api.Kinds{{m: true, w: true}, {true, true, true}, {d: true, m: true}},
		Next:  [3][3]bool{{true, true, true}, {true, true, true}, {true, true, false}},
		Dry:   api.Bounds{Min: 1, Max: 2},
	})
	all := func(year int, from, to state) bool { return true }
	want := [][]api.Rain{{m, d, d}, {m, d, m}, {m, m, d}, {m, w, d}, {w, d, d}, {w, d, m}, {w, m, d}}
	if got := slices.Collect(l.each(all)); !slices.EqualFunc(got, want, slices.Equal) {
		t.Error(got)
	}
	noneDryLast := func(year int, from, to state) bool { return year < 2 || to.kind != d }
	if got := slices.Collect(l.each(noneDryLast)); !slices.EqualFunc(got, [][]api.Rain{{m, d, m}, {w, d, m}}, slices.Equal) {
		t.Error(got)
	}
	var some [][]api.Rain
	for course := range l.each(all) {
		if some = append(some, course); len(some) == 3 {
			break
		}
	}
	if !slices.EqualFunc(some, want[:3], slices.Equal) {
		t.Error(some)
	}
	if got := slices.Collect(coursesOf(api.Climate{}).each(all)); len(got) != 1 || len(got[0]) != 0 {
		t.Error(got)
	}
	if got := slices.Collect(coursesOf(api.Climate{Dry: api.Bounds{Min: 1, Max: 1}}).each(all)); got != nil {
		t.Error(got)
	}
}
