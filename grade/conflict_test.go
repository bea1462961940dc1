package grade_test

import (
	"math/rand"
	"slices"
	"testing"

	"sobreiro/api"
	"sobreiro/grade"
)

// circle returns a panel in which each of several items is found better than the next one, and the last one better than the first, by one grader after the other.
func circle(items, by int) api.Panel {
	p := api.Panel{Items: items, Graders: []api.Grader{{Code: "A"}, {Code: "B"}, {Code: "C"}}}
	for i := range items {
		p.Pairs = append(p.Pairs, api.Pair{Grader: i % 3, Better: i, Worse: (i + 1) % items, By: by})
	}
	return p
}

// P6.3: the examples, and small panels.
func TestConflicts(t *testing.T) {
	alone := changed(func(p *api.Panel) { p.Opinions[0].Class, p.Graders[0].Bias = 0, bounds(100, 200) })
	two := conflictPanel() // the second conflict is as short, and its list is greater
	two.Pairs = append(two.Pairs, api.Pair{Grader: 1, Better: 0, Worse: 1, By: 20})
	short := conflictPanel()
	short.Pairs = append(short.Pairs, api.Pair{Grader: 1, Better: 1, Worse: 2, By: 0})
	ring := circle(10, 1)
	ring.Pairs = append(ring.Pairs, api.Pair{Grader: 0, Better: 0, Worse: 5, By: 3}, api.Pair{Grader: 0, Better: 3, Worse: 4, By: 3})
	for i, x := range []struct {
		p          api.Panel
		judgements []int
		leave      []int
	}{
		{examplePanel(), nil, nil},
		{api.Panel{}, nil, nil},
		{circle(10, 0), nil, nil},
		{conflictPanel(), []int{0, 1, 4}, []int{0}},
		{alone, []int{0}, []int{0}},
		{two, []int{0, 1, 4}, []int{0}},
		{short, []int{3, 5}, []int{0}},
		{circle(2, 1), []int{0, 1}, []int{0}},
		{circle(10, 1), []int{0, 1, 2, 3, 4, 5, 6, 7, 8, 9}, []int{0}},
		{ring, []int{5, 6, 7, 8, 9, 10}, []int{0}},
		// Of two graders who cannot be together the first one is left out; of one alone, this one.
		{changed(func(p *api.Panel) { p.Opinions[2].Class = 0 }), []int{1, 2}, []int{0}},
		{changed(func(p *api.Panel) { p.Graders[1].Bias, p.Opinions[2].Class = known(200), 0 }), []int{2}, []int{1}},
		// Two graders of three have to be left out.
		{api.Panel{
			Items: 1, Cuts: []int{10, 20, 30, 40}, Graders: []api.Grader{{Code: "A"}, {Code: "B"}, {Code: "C"}, {Code: "D"}},
			Opinions: []api.Opinion{{Grader: 0, Class: 1}, {Grader: 1, Class: 2}, {Grader: 2, Class: 3}, {Grader: 3, Class: 2}},
		}, []int{0, 1}, []int{0, 2}},
		{api.Panel{
			Items: 1, Cuts: []int{10, 20, 30, 40}, Graders: []api.Grader{{Code: "A"}, {Code: "B"}, {Code: "C"}, {Code: "D"}},
			Opinions: []api.Opinion{{Grader: 3, Class: 1}, {Grader: 1, Class: 2}, {Grader: 2, Class: 3}},
		}, []int{0, 1}, []int{1, 2}},
		// Each of them contradicts itself.
		{api.Panel{
			Items: 1, Cuts: []int{10}, Graders: []api.Grader{{Code: "A", Bias: known(50)}, {Code: "B", Bias: known(10)}},
			Opinions: []api.Opinion{{Grader: 1}, {Grader: 0}},
		}, []int{0}, []int{0, 1}},
	} {
		if l, found, e := grade.Conflict(x.p); !slices.Equal(l, x.judgements) || found != (len(x.judgements) > 0) || e != api.OK {
			t.Error(i, "Conflict", l, found, e)
		}
		if l, e := grade.Leave(x.p); !slices.Equal(l, x.leave) || e != api.OK {
			t.Error(i, "Leave", l, e)
		}
	}
}

// P6.3, P0.3: the fewest judgements, and the fewest graders, of all subsets.
func TestFewest(t *testing.T) {
	r := rand.New(rand.NewSource(7))
	lengths := map[int]int{}
	left := map[int]int{}
	for i := range 2 * often {
		most := 8
		if i%100 == 0 {
			most = api.MaxJudged
		}
		p := tensePanel(r, most)
		if i%4 == 1 {
			p = somePanel(r, most)
		}
		judgements, is := conflictOf(p)
		if l, found, e := grade.Conflict(p); !slices.Equal(l, judgements) || found != is || e != api.OK {
			t.Fatal(p, l, found, e, "not", judgements)
		}
		graders := leaveOf(p)
		if l, e := grade.Leave(p); !slices.Equal(l, graders) || e != api.OK {
			t.Fatal(p, l, e, "not", graders)
		}
		lengths[len(judgements)]++
		left[len(graders)]++
	}
	if lengths[0] < 500 || lengths[1] < 25 || lengths[2] < 500 || lengths[3] < 200 || lengths[4] < 10 || left[1] < 500 || left[2] < 100 {
		t.Error("too few of some lengths", lengths, left)
	}
}

// P6.7: there is a scale exactly if there is no conflict; its judgements contradict each other, and without any one of them they do not. P6.8: the same of those who are left out.
func TestEither(t *testing.T) {
	r := rand.New(rand.NewSource(8))
	for range 2 * often {
		p := tensePanel(r, api.MaxJudged)
		l, found, e := grade.Conflict(p)
		if e != api.OK || found == isPossible(p) || found == (len(l) == 0) || !slices.IsSorted(l) {
			t.Fatal(p, l, found, e)
		}
		if found && isPossible(only(p, func(j int) bool { return slices.Contains(l, j) })) {
			t.Fatal(p, l)
		}
		for _, without := range l {
			if !isPossible(only(p, func(j int) bool { return j != without && slices.Contains(l, j) })) {
				t.Fatal(p, l, without)
			}
		}
		left, e := grade.Leave(p)
		if e != api.OK || found == (len(left) == 0) || !isPossible(onlyBy(p, left)) || !slices.IsSorted(left) {
			t.Fatal(p, left, e)
		}
		for i := range left {
			if isPossible(onlyBy(p, slices.Delete(slices.Clone(left), i, i+1))) {
				t.Fatal(p, left, i)
			}
		}
	}
}

// P6.3: however the goroutines go, the answer is the same.
func TestSameConflict(t *testing.T) {
	r := rand.New(rand.NewSource(9))
	for range 100 {
		p := tensePanel(r, api.MaxJudged)
		l, _, _ := grade.Conflict(p)
		for range 20 {
			if again, _, _ := grade.Conflict(p); !slices.Equal(again, l) {
				t.Fatal(p, l, again)
			}
		}
	}
}
