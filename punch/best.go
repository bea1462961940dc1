package punch

import (
	"cmp"
	"slices"

	"sobreiro/api"
)

// part is the cells from one up to the one before another. The last ones can be the Gap cells after a lath.
type part struct{ from, to int }

// reckoned returns a function that reckons what is asked for only once for each part.
func reckoned[T any](reckon func(p part) T) func(p part) T {
	known := map[part]T{}
	return func(p part) T {
		t, found := known[p]
		if !found {
			t = reckon(p)
			known[p] = t
		}
		return t
	}
}

// valued is a plan and its value.
type valued struct {
	corks []int
	worth api.Bounds
}

// before returns a plan with one more cork before all others.
func (v valued) before(at int, worth api.Bounds) valued {
	// The plan without it is a part of others, too, so that its slice is not shared.
	corks := make([]int, 1+len(v.corks))
	corks[0] = at
	copy(corks[1:], v.corks)
	return valued{corks, sum(worth, v.worth)}
}

// compareValued puts the better plan first.
func compareValued(a, b valued) int {
	return cmp.Or(cmp.Compare(b.worth.Min, a.worth.Min), cmp.Compare(b.worth.Max, a.worth.Max), slices.Compare(a.corks, b.corks))
}

// firstOf returns the one of two that comes first.
func firstOf[T any](compare func(a, b T) int, a, b T) T {
	if compare(b, a) < 0 {
		return b
	}
	return a
}

// best returns the best plan. Parts become less at their front, for a list that goes on with a lesser list is less itself.
func (b *board) best() valued {
	var best func(p part) valued
	best = reckoned(func(p part) valued {
		if p.to-p.from < b.step() {
			return valued{}
		}
		without := best(part{p.from + 1, p.to})
		rest := best(part{p.from + b.step(), p.to})
		return firstOf(compareValued, without, rest.before(p.from, b.worth(p.from)))
	})
	return best(part{0, b.Length + b.Gap})
}

// rents returns the rent of each cell, also of the Gap cells after the last one.
func (b *board) rents() []int {
	var most func(p part) int // what the corks in a part are surely worth at most
	most = reckoned(func(p part) int {
		if p.to-p.from < b.step() {
			return 0
		}
		at := p.to - b.step()
		return max(most(part{p.from, p.to - 1}), most(part{p.from, at})+b.worth(at).Min)
	})
	rents := make([]int, b.Length+b.Gap)
	for n := range rents {
		rents[n] = most(part{0, n + 1}) - most(part{0, n})
	}
	return rents
}

// arePaid says whether the cells of each cork, with the gap after it, have rents of at least what it is surely worth.
func (b *board) arePaid(rents []int) bool {
	for at := range b.positions(b.Width) {
		paid := 0
		for _, rent := range rents[at : at+b.step()] {
			paid += rent
		}
		if b.worth(at).Min > paid {
			return false
		}
	}
	return true
}
