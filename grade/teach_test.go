package grade_test

import (
	"math/rand"
	"slices"
	"testing"

	"sobreiro/api"
	"sobreiro/grade"
)

// P6.4: cut points of a camera.
func TestTeach(t *testing.T) {
	for i, x := range []struct {
		readings, classes []int
		many              int
		cuts              []int
		wrong             int
	}{
		{[]int{10, 20, 30, 40}, []int{0, 1, 0, 1}, 2, []int{11}, 1},
		{nil, nil, 1, nil, 0},
		{nil, nil, 6, []int{0, 0, 0, 0, 0}, 0},
		{[]int{5, 0, 200000}, []int{0, 0, 0}, 1, nil, 0},
		{[]int{10, 20, 30, 40}, []int{0, 0, 1, 1}, 2, []int{21}, 0},
		{[]int{40, 20, 30, 10}, []int{1, 0, 1, 0}, 2, []int{21}, 0},
		{[]int{10, 20, 30, 40}, []int{1, 1, 1, 1}, 2, []int{0}, 0},
		{[]int{10, 20, 30, 40}, []int{0, 0, 0, 0}, 2, []int{41}, 0},
		{[]int{10, 20, 30, 40}, []int{1, 1, 0, 0}, 2, []int{0}, 2},
		{[]int{10, 20, 30}, []int{1, 0, 0}, 2, []int{31}, 1},
		{[]int{0}, []int{0}, 2, []int{1}, 0},
		{[]int{0}, []int{1}, 2, []int{0}, 0},
		{[]int{200000}, []int{0}, 2, []int{200001}, 0},
		{[]int{200000}, []int{1}, 2, []int{0}, 0},
		{[]int{200000}, []int{0}, 3, []int{200001, 200001}, 0},
		{[]int{200000}, []int{1}, 3, []int{0, 200001}, 0},
		// No item has the class between: its cut points are the same.
		{[]int{10, 20, 30, 40}, []int{0, 0, 2, 2}, 3, []int{21, 21}, 0},
		{[]int{10, 20, 30, 40}, []int{2, 2, 2, 2}, 4, []int{0, 0, 41}, 0},
		// Equal readings cannot be told apart.
		{[]int{7, 7, 7}, []int{0, 1, 1}, 2, []int{0}, 1},
		{[]int{7, 7, 7}, []int{0, 1, 0}, 2, []int{8}, 1},
		{[]int{7, 7}, []int{0, 1}, 2, []int{0}, 1},
		{[]int{7, 7}, []int{0, 2}, 3, []int{0, 0}, 1},
		{[]int{7, 8}, []int{0, 1}, 2, []int{8}, 0},
		// The first cut point is the least one, even if the others are greater so.
		{[]int{10, 20, 30}, []int{1, 0, 1}, 3, []int{0, 31}, 1},
		{[]int{1, 2, 3, 4, 5, 6}, []int{0, 1, 2, 3, 4, 5}, 6, []int{2, 3, 4, 5, 6}, 0},
	} {
		if cuts, wrong, e := grade.Teach(x.readings, x.classes, x.many); !slices.Equal(cuts, x.cuts) || wrong != x.wrong || e != api.OK {
			t.Error(i, cuts, wrong, e)
		}
	}
}

// P6.4, R1: the errors of Teach, in their order.
func TestTeachErrors(t *testing.T) {
	for i, x := range []struct {
		readings, classes []int
		many              int
		want              api.Errno
	}{
		{nil, nil, 0, api.ErrValue},
		{nil, nil, 7, api.ErrValue},
		{make([]int, 31), make([]int, 31), 0, api.ErrValue},
		{[]int{-1}, nil, -5, api.ErrValue},
		{make([]int, 30), make([]int, 30), 2, api.OK},
		{make([]int, 31), make([]int, 31), 2, api.ErrCount},
		{make([]int, 3), make([]int, 2), 2, api.ErrCount},
		{make([]int, 2), make([]int, 3), 2, api.ErrCount},
		{nil, make([]int, 1), 2, api.ErrCount},
		{make([]int, 1), nil, 2, api.ErrCount},
		{[]int{-1, 5}, []int{9}, 2, api.ErrCount},
		{[]int{0, 200000}, []int{0, 1}, 2, api.OK},
		{[]int{0, 200001}, []int{0, 1}, 2, api.ErrValue},
		{[]int{-1, 200000}, []int{0, 1}, 2, api.ErrValue},
		{[]int{0, 200000}, []int{0, 2}, 2, api.ErrValue},
		{[]int{0, 200000}, []int{-1, 1}, 2, api.ErrValue},
		{[]int{0}, []int{1}, 1, api.ErrValue},
	} {
		if cuts, wrong, e := grade.Teach(x.readings, x.classes, x.many); e != x.want || e != api.OK && (cuts != nil || wrong != 0) {
			t.Error(i, cuts, wrong, e)
		}
	}
	for _, n := range outside(1, 6) {
		if _, _, e := grade.Teach(nil, nil, n); e != api.ErrValue {
			t.Error(n, e)
		}
	}
	for _, n := range outside(0, 200000) {
		if _, _, e := grade.Teach([]int{3, n}, []int{0, 0}, 6); e != api.ErrValue {
			t.Error(n, e)
		}
	}
	for _, n := range outside(0, 5) {
		if _, _, e := grade.Teach([]int{3, 3}, []int{0, n}, 6); e != api.ErrValue {
			t.Error(n, e)
		}
	}
}

// wrongWith counts the items that are wrong with cut points.
func wrongWith(cuts, readings, classes []int) (wrong int) {
	for i, n := range readings {
		if class(cuts, n) != classes[i] {
			wrong++
		}
	}
	return wrong
}

// someLesson returns readings and classes that go together more or less.
func someLesson(r *rand.Rand, items, most, many int) (readings, classes []int) {
	for range items {
		n := r.Intn(most + 1)
		class := n * many / (most + 1)
		if r.Intn(3) == 0 {
			class = r.Intn(many)
		}
		readings, classes = append(readings, n), append(classes, class)
	}
	return readings, classes
}

// bestCuts goes through all lists of cut points up to a number, the least one first.
func bestCuts(readings, classes []int, many, most int) (best []int, least int) {
	least = len(readings) + 1
	var goOn func(cuts []int, from int)
	goOn = func(cuts []int, from int) {
		if len(cuts) == many-1 {
			if wrong := wrongWith(cuts, readings, classes); wrong < least {
				best, least = slices.Clone(cuts), wrong
			}
			return
		}
		for n := from; n <= most; n++ {
			goOn(append(cuts, n), n)
		}
	}
	goOn(nil, 0)
	return best, least
}

// P6.4, P6.8, P0.3: of all cut points those with the fewest wrong items, and of these the least.
func TestBestCuts(t *testing.T) {
	r := rand.New(rand.NewSource(12))
	for range 4 * often {
		many, most := 1+r.Intn(6), 1+r.Intn(7)
		if many > 4 {
			most = min(most, 4)
		}
		readings, classes := someLesson(r, r.Intn(9), most, many)
		best, least := bestCuts(readings, classes, many, most+2)
		if cuts, wrong, e := grade.Teach(readings, classes, many); !slices.Equal(cuts, best) || wrong != least || e != api.OK {
			t.Fatal(readings, classes, many, cuts, wrong, e, "not", best, least)
		}
	}
}

// P6.8: no other cut points have fewer wrong items, and as few only if they are greater.
func TestOtherCuts(t *testing.T) {
	r := rand.New(rand.NewSource(13))
	for range often {
		many := 1 + r.Intn(6)
		readings, classes := someLesson(r, r.Intn(api.MaxTaught+1), []int{20, 1000, api.MaxScale}[r.Intn(3)], many)
		cuts, wrong, e := grade.Teach(readings, classes, many)
		if e != api.OK || len(cuts) != many-1 || !slices.IsSorted(cuts) || wrongWith(cuts, readings, classes) != wrong {
			t.Fatal(readings, classes, many, cuts, wrong, e)
		}
		if len(cuts) > 0 && (cuts[0] < 0 || cuts[len(cuts)-1] > api.MaxScale+1) {
			t.Fatal(readings, classes, many, cuts)
		}
		for range 50 {
			others := slices.Clone(cuts)
			for i := range others {
				if len(readings) > 0 && r.Intn(2) == 0 {
					others[i] = readings[r.Intn(len(readings))] + r.Intn(2)
				} else {
					others[i] = max(0, others[i]-r.Intn(2))
				}
			}
			slices.Sort(others)
			if n := wrongWith(others, readings, classes); n < wrong || n == wrong && slices.Compare(others, cuts) < 0 {
				t.Fatal(readings, classes, many, cuts, wrong, others, n)
			}
		}
		// The order of the items does not matter.
		r.Shuffle(len(readings), func(a, b int) {
			readings[a], readings[b], classes[a], classes[b] = readings[b], readings[a], classes[b], classes[a]
		})
		if again, n, _ := grade.Teach(readings, classes, many); !slices.Equal(again, cuts) || n != wrong {
			t.Fatal(readings, classes, many, cuts, again)
		}
	}
}
