package yard_test

import (
	"math/rand"
	"slices"
	"testing"

	"sobreiro/api"
	"sobreiro/yard"
)

// mixedYard is a yard in which stacks are split and merged, and in which a code is used again.
func mixedYard() api.Yard {
	n := known(10)
	return yardOf(0, 0,
		pile(0, "B", n, n),                // 0
		pile(0, "A", n, n),                // 1
		split(0, "B", "C", known(500)),    // 2
		boil(0, "A", known(0), known(0)),  // 3
		sell(0, "A"),                      // 4
		pile(0, "A", n, n),                // 5
		merge(0, "A", "C"),                // 6
		split(0, "A", "C", known(0)),      // 7
		pile(0, "D", known(0), known(0)),  // 8
		merge(0, "D", "B"),                // 9
		merge(0, "D", "A"),                // 10
		split(0, "D", "B", bounds(0, 10)), // 11
		rest(0, "C", n),                   // 12
	)
}

// P5.3: the codes of piles, in the order of the deeds.
func TestSources(t *testing.T) {
	for i, x := range []struct {
		y    api.Yard
		n    int
		code string
		want []string
		e    api.Errno
	}{
		{exampleYard(), 6, "B", []string{"A"}, api.OK},
		{exampleYard(), 6, "A", []string{"A"}, api.OK},
		{exampleYard(), 7, "A", nil, api.ErrMissing},
		{exampleYard(), 4, "B", nil, api.ErrMissing},
		{exampleYard(), 0, "A", nil, api.ErrMissing},
		{changed(func(y *api.Yard) { y.After = 15 }), 4, "A", nil, api.ErrAgainst},
		{changed(func(y *api.Yard) { y.After = 15 }), 4, "B", nil, api.ErrAgainst},
		{changed(func(y *api.Yard) { y.After = 15 }), 3, "A", []string{"A"}, api.OK},
		{mixedYard(), 2, "B", []string{"B"}, api.OK},
		{mixedYard(), 3, "C", []string{"B"}, api.OK},
		{mixedYard(), 5, "A", nil, api.ErrMissing},
		{mixedYard(), 6, "A", []string{"A"}, api.OK},
		{mixedYard(), 7, "A", []string{"B", "A"}, api.OK},
		{mixedYard(), 7, "C", nil, api.ErrMissing},
		{mixedYard(), 8, "C", []string{"B", "A"}, api.OK},
		{mixedYard(), 9, "D", []string{"D"}, api.OK},
		{mixedYard(), 10, "D", []string{"B", "D"}, api.OK},
		{mixedYard(), 11, "D", []string{"B", "A", "D"}, api.OK},
		{mixedYard(), 12, "B", []string{"B", "A", "D"}, api.OK},
		{mixedYard(), 13, "C", []string{"B", "A"}, api.OK},
		// Two piles that had the same code are two.
		{yardOf(0, 0, pile(0, "A", known(1), known(1)), split(0, "A", "B", known(500)), boil(0, "A", known(0), known(0)), sell(0, "A"), pile(0, "A", known(1), known(1)), merge(0, "B", "A")), 6, "B", []string{"A", "A"}, api.OK},
	} {
		if l, e := yard.Sources(x.y, x.n, x.code); !slices.Equal(l, x.want) || e != x.e {
			t.Error(i, l, e)
		}
	}
}

// P5.3: the codes of stacks, in their order.
func TestHolders(t *testing.T) {
	for i, x := range []struct {
		y       api.Yard
		n, pile int
		want    []string
		e       api.Errno
	}{
		{exampleYard(), 1, 0, []string{"A"}, api.OK},
		{exampleYard(), 6, 0, []string{"A", "B"}, api.OK},
		{exampleYard(), 7, 0, []string{"B"}, api.OK},
		{exampleYard(), 0, 0, nil, api.ErrMissing},
		{exampleYard(), 7, 1, nil, api.ErrMissing},
		{exampleYard(), 7, 6, nil, api.ErrMissing},
		{exampleYard(), 7, 7, nil, api.ErrMissing},
		{exampleYard(), 7, -1, nil, api.ErrMissing},
		{changed(func(y *api.Yard) { y.After = 15 }), 4, 0, nil, api.ErrAgainst},
		{changed(func(y *api.Yard) { y.After = 15 }), 4, 4, nil, api.ErrMissing},
		{changed(func(y *api.Yard) { y.After = 15 }), 3, 0, []string{"A"}, api.OK},
		{mixedYard(), 3, 0, []string{"B", "C"}, api.OK},
		{mixedYard(), 3, 1, []string{"A"}, api.OK},
		{mixedYard(), 5, 1, nil, api.OK},
		{mixedYard(), 5, 5, nil, api.ErrMissing},
		{mixedYard(), 6, 5, []string{"A"}, api.OK},
		{mixedYard(), 6, 0, []string{"B", "C"}, api.OK},
		{mixedYard(), 7, 0, []string{"B", "A"}, api.OK},
		{mixedYard(), 8, 0, []string{"B", "A", "C"}, api.OK},
		{mixedYard(), 8, 5, []string{"A", "C"}, api.OK},
		{mixedYard(), 9, 8, []string{"D"}, api.OK},
		{mixedYard(), 10, 0, []string{"A", "C", "D"}, api.OK},
		{mixedYard(), 12, 0, []string{"C", "D", "B"}, api.OK},
		{mixedYard(), 12, 5, []string{"C", "D", "B"}, api.OK},
		{mixedYard(), 12, 8, []string{"D", "B"}, api.OK},
		{mixedYard(), 13, 1, nil, api.OK},
		{mixedYard(), 13, 2, nil, api.ErrMissing},
	} {
		if l, e := yard.Holders(x.y, x.n, x.pile); !slices.Equal(l, x.want) || e != x.e {
			t.Error(i, l, e)
		}
	}
}

// P5.3, P5.7: whatever the deeds are, sources and holders are as they are told, and a stack is among a pile's holders just if the pile is among its sources.
func TestLineage(t *testing.T) {
	r := rand.New(rand.NewSource(5))
	joined := 0
	for range often {
		y := someYard(r, 1+r.Intn(api.MaxDeeds), r.Intn(9) == 0)
		n := r.Intn(len(y.Deeds) + 1)
		s, _, fault := taleOf(y).upTo(n)
		if fault != api.YdNone {
			s.Stacks = nil
		}
		holders := make([][]string, n)
		for _, x := range s.Stacks {
			var want []string
			for _, pile := range x.From {
				want = append(want, y.Deeds[pile].Stack)
				holders[pile] = append(holders[pile], x.Code)
			}
			if l, e := yard.Sources(y, n, x.Code); !slices.Equal(l, want) || e != api.OK {
				t.Fatal(y, n, x, l, e)
			}
			if len(want) > 1 {
				joined++
			}
		}
		for pile, want := range holders {
			l, e := yard.Holders(y, n, pile)
			switch {
			case y.Deeds[pile].Kind != api.YdPile:
				if l != nil || e != api.ErrMissing {
					t.Fatal(y, n, pile, l, e)
				}
			case fault != api.YdNone:
				if l != nil || e != api.ErrAgainst {
					t.Fatal(y, n, pile, l, e)
				}
			case !slices.Equal(l, want) || e != api.OK:
				t.Fatal(y, n, pile, l, e, want)
			}
		}
	}
	if joined < 1000 {
		t.Error("too few stacks of several piles", joined)
	}
}
