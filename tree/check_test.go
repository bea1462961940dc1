package tree_test

import (
	"fmt"
	"math"
	"testing"

	"sobreiro/api"
	"sobreiro/tree"
)

// change makes a forest of the example's.
type change func(f *api.Forest, t *api.Tree)

func changed(changes ...change) api.Forest {
	f := example()
	for _, c := range changes {
		c(&f, &f.Trees[0])
	}
	return f
}

// P1.1: what is within its range, at its ends too, is valid.
func TestCheckForestAccepts(t *testing.T) {
	for i, c := range []change{
		func(f *api.Forest, t *api.Tree) {},
		func(f *api.Forest, t *api.Tree) { f.Trees = nil },
		func(f *api.Forest, t *api.Tree) { f.Law = api.Law{Rest: 1} },
		func(f *api.Forest, t *api.Tree) {
			f.Law = api.Law{Age: 300, Rest: 30, Girth: 6000, Factors: [3]int{50, 50, 50}, Heal: 30}
		},
		func(f *api.Forest, t *api.Tree) { *t = api.Tree{Code: "Z"} },
		func(f *api.Forest, t *api.Tree) {
			*t = api.Tree{Code: "ABCDEFGH", Born: bounds(300, 300), Taped: 300, Girth: bounds(6000, 6000), Grows: bounds(50, 50), Dead: 300}
		},
		func(f *api.Forest, t *api.Tree) {
			t.Born, t.Girth, t.Grows = bounds(0, 300), bounds(0, 6000), bounds(0, 50)
		},
		func(f *api.Forest, t *api.Tree) {
			t.Strips = []api.Strip{{Year: 0, Height: 1}, {Year: 300, Height: 15000}}
		},
		func(f *api.Forest, t *api.Tree) { t.Wounds = []int{0, 1, 300} },
		func(f *api.Forest, t *api.Tree) {
			t.Strips, t.Wounds = manyStrips(10), []int{1, 2, 3, 4, 5, 6, 7, 8, 9, 10}
		},
		func(f *api.Forest, t *api.Tree) { f.Trees = manyTrees(20) },
	} {
		if e := tree.CheckForest(changed(c)); e != api.OK {
			t.Error(i, e)
		}
	}
}

func manyStrips(n int) []api.Strip {
	var l []api.Strip
	for y := range n {
		l = append(l, api.Strip{Year: y, Height: 1})
	}
	return l
}

func manyTrees(n int) []api.Tree {
	var l []api.Tree
	for i := range n {
		l = append(l, api.Tree{Code: fmt.Sprintf("T%d", i)})
	}
	return l
}

// outside returns the numbers next to a range, and the ends of all numbers.
func outside(low, high int) []int { return []int{low - 1, high + 1, math.MinInt, math.MaxInt} }

// wrongBounds returns what are not bounds from 0 to high.
func wrongBounds(high int) []api.Bounds {
	return []api.Bounds{bounds(-1, 0), bounds(0, high+1), bounds(2, 1), bounds(math.MinInt, math.MaxInt), bounds(math.MaxInt, math.MinInt)}
}

// invalid returns changes that each break one thing of a forest, with the error, in the order of the errors.
func invalid() (l []change, errors []api.Errno) {
	add := func(e api.Errno, c change) { l, errors = append(l, c), append(errors, e) }
	for _, n := range outside(0, api.MaxYear) {
		add(api.ErrValue, func(f *api.Forest, t *api.Tree) { f.Law.Age = n })
	}
	for _, n := range outside(1, api.MaxRest) {
		add(api.ErrValue, func(f *api.Forest, t *api.Tree) { f.Law.Rest = n })
	}
	for _, n := range outside(0, api.MaxGirth) {
		add(api.ErrValue, func(f *api.Forest, t *api.Tree) { f.Law.Girth = n })
	}
	for i := range 3 {
		for _, n := range outside(0, api.MaxMultiple) {
			add(api.ErrValue, func(f *api.Forest, t *api.Tree) { f.Law.Factors[i] = n })
		}
	}
	for _, n := range outside(0, api.MaxRest) {
		add(api.ErrValue, func(f *api.Forest, t *api.Tree) { f.Law.Heal = n })
	}
	add(api.ErrCount, func(f *api.Forest, t *api.Tree) { f.Trees = append(f.Trees, manyTrees(20)...) })
	for _, s := range []string{"", "s1", "1S", "S_1", "S23456789"} {
		add(api.ErrCode, func(f *api.Forest, t *api.Tree) { t.Code = s })
	}
	// The tree that is looked at stands behind another one.
	add(api.ErrRepeat, func(f *api.Forest, t *api.Tree) { f.Trees = []api.Tree{{Code: t.Code}, *t} })
	for _, b := range wrongBounds(api.MaxYear) {
		add(api.ErrValue, func(f *api.Forest, t *api.Tree) { t.Born = b })
	}
	for _, n := range outside(0, api.MaxYear) {
		add(api.ErrValue, func(f *api.Forest, t *api.Tree) { t.Taped = n })
	}
	for _, b := range wrongBounds(api.MaxGirth) {
		add(api.ErrValue, func(f *api.Forest, t *api.Tree) { t.Girth = b })
	}
	for _, b := range wrongBounds(api.MaxGrowth) {
		add(api.ErrValue, func(f *api.Forest, t *api.Tree) { t.Grows = b })
	}
	for _, n := range outside(-1, api.MaxYear) {
		add(api.ErrValue, func(f *api.Forest, t *api.Tree) { t.Dead = n })
	}
	add(api.ErrCount, func(f *api.Forest, t *api.Tree) { t.Strips = manyStrips(11) })
	for _, n := range outside(0, api.MaxYear) {
		add(api.ErrValue, func(f *api.Forest, t *api.Tree) { t.Strips = []api.Strip{{Year: n, Height: 1}} })
	}
	for _, n := range outside(1, api.MaxHeight) {
		add(api.ErrValue, func(f *api.Forest, t *api.Tree) { t.Strips = []api.Strip{{Year: 40, Height: n}} })
	}
	for _, y := range []int{40, 39, 0} {
		add(api.ErrOrder, func(f *api.Forest, t *api.Tree) { t.Strips = []api.Strip{{Year: 40, Height: 1}, {Year: y, Height: 1}} })
	}
	add(api.ErrCount, func(f *api.Forest, t *api.Tree) { t.Wounds = make([]int, 11) })
	for _, n := range outside(0, api.MaxYear) {
		add(api.ErrValue, func(f *api.Forest, t *api.Tree) { t.Wounds = []int{n} })
	}
	for _, y := range []int{5, 4, 0} {
		add(api.ErrOrder, func(f *api.Forest, t *api.Tree) { t.Wounds = []int{5, y} })
	}
	return l, errors
}

// P1.1: each error.
func TestCheckForestRejects(t *testing.T) {
	l, errors := invalid()
	for i, c := range l {
		if e := tree.CheckForest(changed(c)); e != errors[i] {
			t.Error(i, e, errors[i])
		}
	}
}

// P1.1, R1: of several errors that of the first check is returned, of several elements that of the first one.
func TestCheckForestOrder(t *testing.T) {
	law := func(f *api.Forest, t *api.Tree) { f.Law.Rest = 0 }
	trees := func(f *api.Forest, t *api.Tree) { f.Trees = append(f.Trees, manyTrees(20)...) }
	code := func(f *api.Forest, t *api.Tree) { t.Code = "s" }
	born := func(f *api.Forest, t *api.Tree) { t.Born = bounds(1, 0) }
	strips := func(f *api.Forest, t *api.Tree) { t.Strips = make([]api.Strip, 11) }
	height := func(f *api.Forest, t *api.Tree) { t.Strips = []api.Strip{{Year: 5, Height: 1}, {Year: 4, Height: 0}} }
	years := func(f *api.Forest, t *api.Tree) {
		t.Strips = []api.Strip{{Year: 5, Height: 1}, {Year: 4, Height: 1}, {Year: 6}}
	}
	wounds := func(f *api.Forest, t *api.Tree) { t.Wounds = make([]int, 11) }
	wound := func(f *api.Forest, t *api.Tree) { t.Wounds = []int{4, 3, -1} }
	repeat := func(f *api.Forest, t *api.Tree) {
		f.Trees = append(f.Trees, api.Tree{Code: t.Code, Born: bounds(1, 0), Strips: make([]api.Strip, 11)})
	}
	second := func(f *api.Forest, t *api.Tree) { f.Trees = append(f.Trees, api.Tree{}) }
	for i, x := range []struct {
		want    api.Errno
		changes []change
	}{
		{api.ErrValue, []change{law, code, trees}},
		{api.ErrCount, []change{code, born, trees}},
		{api.ErrCode, []change{code, born, strips, wounds}},
		{api.ErrRepeat, []change{repeat}},
		{api.ErrValue, []change{born, repeat}},
		{api.ErrValue, []change{born, strips, wounds}},
		{api.ErrCount, []change{strips, wound}},
		{api.ErrValue, []change{height, wounds}},
		{api.ErrOrder, []change{years, wounds}},
		{api.ErrCount, []change{wounds, second}},
		{api.ErrOrder, []change{wound, second}},
		{api.ErrCode, []change{second}},
	} {
		if e := tree.CheckForest(changed(x.changes...)); e != x.want {
			t.Error(i, e)
		}
	}
}

// answers returns the results of all functions with a forest, as texts, and their errors.
func answers(f api.Forest, n, year, height int) (texts []string, errors []api.Errno) {
	add := func(e api.Errno, results ...any) {
		texts, errors = append(texts, fmt.Sprint(results...)), append(errors, e)
	}
	g, e := tree.Girth(f, n, year)
	add(e, g)
	v, r, e := tree.May(f, n, year, height)
	add(e, v, r)
	a, b, e := tree.Highest(f, n, year)
	add(e, a, b)
	a, b, e = tree.Next(f, n, year)
	add(e, a, b)
	a, r, e = tree.First(f, n)
	add(e, a, r)
	g, e = tree.Area(f, n, year, height)
	add(e, g)
	s, e := tree.Print(f)
	add(e, s)
	return texts, errors
}

// P0.1, R2: each function returns CheckForest's errors first, and zero values with them.
func TestForestErrorsComeFirst(t *testing.T) {
	l, errors := invalid()
	zero := []string{"{0 0}", "0 0", "0 0", "0 0", "0 0", "{0 0}", ""}
	for i, c := range l {
		texts, got := answers(changed(c), -1, -1, 0)
		for k, e := range got {
			if e != errors[i] || texts[k] != zero[k] {
				t.Error(i, k, e, texts[k])
			}
		}
	}
}

// P0.1: then there is no such tree, then the year, then the height.
func TestQuestionErrors(t *testing.T) {
	none, missing, value := api.OK, api.ErrMissing, api.ErrValue
	for i, x := range []struct {
		tree, year, height int
		want               []api.Errno // of Girth, May, Highest, Next, First, Area, Print
	}{
		{1, 42, 1, []api.Errno{missing, missing, missing, missing, missing, missing, none}},
		{-1, -1, 0, []api.Errno{missing, missing, missing, missing, missing, missing, none}},
		{math.MaxInt, 301, 0, []api.Errno{missing, missing, missing, missing, missing, missing, none}},
		{math.MinInt, 0, 1, []api.Errno{missing, missing, missing, missing, missing, missing, none}},
		{0, -1, 0, []api.Errno{value, value, value, value, none, value, none}},
		{0, 301, 1, []api.Errno{value, value, value, value, none, value, none}},
		{0, math.MinInt, 1, []api.Errno{value, value, value, value, none, value, none}},
		{0, math.MaxInt, 1, []api.Errno{value, value, value, value, none, value, none}},
		{0, 38, 0, []api.Errno{none, value, none, none, none, value, none}},
		{0, 38, 15001, []api.Errno{none, value, none, none, none, value, none}},
		{0, 38, math.MinInt, []api.Errno{none, value, none, none, none, value, none}},
		{0, 38, math.MaxInt, []api.Errno{none, value, none, none, none, value, none}},
		{0, 38, 1, []api.Errno{none, none, none, none, none, api.ErrAgainst, none}},
		{0, 42, 1, []api.Errno{none, none, none, none, none, none, none}},
	} {
		texts, got := answers(example(), x.tree, x.year, x.height)
		zero := []string{"{0 0}", "0 0", "0 0", "0 0", "0 0", "{0 0}", ""}
		for k, e := range got {
			if e != x.want[k] || e != none && texts[k] != zero[k] {
				t.Error(i, k, e, texts[k])
			}
		}
	}
	if texts, got := answers(api.Forest{Law: example().Law}, 0, 0, 1); got[0] != missing || got[4] != missing || texts[6] == "" {
		t.Error(texts, got)
	}
}
