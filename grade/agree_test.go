package grade_test

import (
	"math/rand"
	"slices"
	"testing"

	"sobreiro/api"
	"sobreiro/grade"
)

// graded returns a panel in which graders gave each item a class, or none (-1).
func graded(classes ...[]int) api.Panel {
	p := api.Panel{Items: api.MaxItems, Cuts: []int{1, 2, 3, 4, 5}}
	for i, l := range classes {
		p.Graders = append(p.Graders, api.Grader{Code: codes[i]})
		for item, class := range l {
			if class >= 0 {
				p.Opinions = append(p.Opinions, api.Opinion{Grader: i, Item: item, Class: class})
			}
		}
	}
	return p
}

// P6.4: agreements, also of graders who contradict each other.
func TestAgree(t *testing.T) {
	for i, x := range []struct {
		a, b []int
		want api.Agreement
	}{
		{nil, nil, api.Agreement{Both: 0, Same: 0, Num: 0, Den: 1}},
		{[]int{0, 1}, []int{-1, -1, 0, 1}, api.Agreement{Both: 0, Same: 0, Num: 0, Den: 1}},
		{[]int{3}, []int{3}, api.Agreement{Both: 1, Same: 1, Num: 1, Den: 1}},
		{[]int{3, 3, 3}, []int{3, 3, 3}, api.Agreement{Both: 3, Same: 3, Num: 1, Den: 1}},
		{[]int{0, 1, 5}, []int{0, 1, 5}, api.Agreement{Both: 3, Same: 3, Num: 1, Den: 1}},
		{[]int{0, 1, 5, -1}, []int{-1, 1, 5, 2}, api.Agreement{Both: 2, Same: 2, Num: 1, Den: 1}},
		// n 1, s 0, x 0
		{[]int{1}, []int{2}, api.Agreement{Both: 1, Same: 0, Num: 0, Den: 1}},
		// n 2, s 0, x 2: -2 / 2
		{[]int{0, 1}, []int{1, 0}, api.Agreement{Both: 2, Same: 0, Num: -1, Den: 1}},
		// n 3, s 1, x 0 + 0 + 2 = 2 by the classes 0 (1 * 0), 1 (2 * 1)
		{[]int{0, 1, 1}, []int{2, 1, 3}, api.Agreement{Both: 3, Same: 1, Num: 1, Den: 7}},
		// n 4, s 3, x 2 * 3 + 2 * 1 = 8: 4 / 8
		{[]int{0, 0, 1, 1}, []int{0, 0, 0, 1}, api.Agreement{Both: 4, Same: 3, Num: 1, Den: 2}},
		// n 4, s 2, x 2 * 2 + 2 * 2 = 8: 0 / 8
		{[]int{0, 0, 1, 1}, []int{0, 1, 0, 1}, api.Agreement{Both: 4, Same: 2, Num: 0, Den: 1}},
		// n 4, s 1, x 3 * 2 + 1 * 2 = 8: -4 / 8
		{[]int{0, 0, 0, 1}, []int{1, 0, 1, 0}, api.Agreement{Both: 4, Same: 1, Num: -1, Den: 2}},
		// What only one of them judged does not count: n 3, s 2, x 2 * 1 + 1 * 2 = 4; n 3, s 1, x 2 * 2 + 1 * 1 = 5.
		{[]int{0, 0, 1, 0, -1, -1}, []int{0, 1, 1, -1, 0, 1}, api.Agreement{Both: 3, Same: 2, Num: 2, Den: 5}},
		{[]int{0, 0, 1, 0, -1, -1}, []int{1, 0, 0, -1, 0, 1}, api.Agreement{Both: 3, Same: 1, Num: -1, Den: 2}},
		// One of them always gives the same class: 0 by chance alone.
		{[]int{2, 2, 2}, []int{2, 2, 3}, api.Agreement{Both: 3, Same: 2, Num: 0, Den: 1}},
	} {
		p := graded(x.a, x.b)
		for _, ask := range [][2]int{{0, 1}, {1, 0}} {
			if g, e := grade.Agree(p, ask[0], ask[1]); g != x.want || e != api.OK {
				t.Error(i, ask, g, e)
			}
		}
	}
	if g, e := grade.Agree(examplePanel(), 0, 1); g != (api.Agreement{Both: 1, Same: 0, Num: 0, Den: 1}) || e != api.OK {
		t.Error(g, e)
	}
	for _, x := range [][2]int{{2, 0}, {0, 2}, {-1, 0}, {0, -1}, {5, 5}} {
		if g, e := grade.Agree(examplePanel(), x[0], x[1]); g != (api.Agreement{}) || e != api.ErrMissing {
			t.Error(x, g, e)
		}
	}
	// Of oneself.
	if g, e := grade.Agree(examplePanel(), 0, 0); g != (api.Agreement{Both: 2, Same: 2, Num: 1, Den: 1}) || e != api.OK {
		t.Error(g, e)
	}
}

// agreementOf returns what Agree has to return for the classes of the items that both judged, without bringing it to lowest terms.
func agreementOf(a, b []int) (g api.Agreement) {
	for i := range a {
		if a[i] == b[i] {
			g.Same++
		}
		for j := range b { // each item of the one with each of the other
			if a[i] == b[j] {
				g.Num--
				g.Den--
			}
		}
	}
	g.Both = len(a)
	g.Num += g.Both * g.Same
	g.Den += g.Both * g.Both
	switch g.Both {
	case 0:
		g.Num, g.Den = 0, 1
	case g.Same:
		g.Num, g.Den = 1, 1
	}
	return g
}

// isLowest says whether no number but 1 divides both parts of a fraction.
func isLowest(num, den int) bool {
	for d := 2; d <= den; d++ {
		if num%d == 0 && den%d == 0 {
			return false
		}
	}
	return den > 0
}

// P6.4, P6.8: any agreements; two graders agree alike from both sides, and fully exactly if they always give the same class.
func TestAnyAgreement(t *testing.T) {
	r := rand.New(rand.NewSource(11))
	below, full := 0, 0
	for range 3 * often {
		kinds := 1 + r.Intn(api.MaxCuts+1)
		var l, both [2][]int
		for n := 0; n < api.MaxJudged/2; n++ {
			a, b := r.Intn(kinds+1)-1, r.Intn(kinds+1)-1
			if r.Intn(3) == 0 {
				a = b
			}
			l[0], l[1] = append(l[0], a), append(l[1], b)
			if a >= 0 && b >= 0 {
				both[0], both[1] = append(both[0], a), append(both[1], b)
			}
		}
		p := graded(l[0], l[1], nil)
		r.Shuffle(len(p.Opinions), func(i, j int) { p.Opinions[i], p.Opinions[j] = p.Opinions[j], p.Opinions[i] })
		want := agreementOf(both[0], both[1])
		g, e := grade.Agree(p, 0, 1)
		if e != api.OK || g.Both != want.Both || g.Same != want.Same || g.Num*want.Den != want.Num*g.Den || !isLowest(g.Num, g.Den) {
			t.Fatal(l, g, e, "not", want)
		}
		if h, e := grade.Agree(p, 1, 0); h != g || e != api.OK {
			t.Fatal(l, g, h, e)
		}
		if always := slices.Equal(both[0], both[1]) && len(both[0]) > 0; always != (g.Num == g.Den) || g.Num > g.Den {
			t.Fatal(l, g)
		}
		if h, e := grade.Agree(p, 2, 0); h != (api.Agreement{Den: 1}) || e != api.OK {
			t.Fatal(l, h, e)
		}
		if g.Num < 0 {
			below++
		}
		if g.Num == g.Den {
			full++
		}
	}
	if below < 500 || full < 500 {
		t.Error("too few are below or full", below, full)
	}
}
