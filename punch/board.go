package punch

import (
	"iter"

	"sobreiro/api"
)

// piece is cells next to each other: a cork or a disc.
type piece struct{ at, width int }

// end is the first cell after a piece.
func (p piece) end() int { return p.at + p.width }

// areApart says whether at least gap cells lie between two pieces.
func areApart(a, b piece, gap int) bool {
	return a.end()+gap <= b.at || b.end()+gap <= a.at
}

// hasRoom says whether a piece lies far enough from all corks of a plan.
func hasRoom(l api.Lath, plan []int, p piece) bool {
	for _, at := range plan {
		if !areApart(p, piece{at, l.Width}, l.Gap) {
			return false
		}
	}
	return true
}

// cover is the greatest grade of the flaws on each cell, 0 where there is none.
type cover [api.MaxLath]int

// lay lays a flaw on the cells from one up to the one before another.
func (c *cover) lay(from, to, grade int) {
	for cell := from; cell < to; cell++ {
		c[cell] = max(c[cell], grade)
	}
}

// class returns the class of a piece.
func (c *cover) class(p piece) (class int) {
	for cell := p.at; cell < p.end(); cell++ {
		class = max(class, c[cell])
	}
	return class
}

// board is a lath with its flaws laid on it.
type board struct {
	api.Lath
	// A piece surely touches a flaw if it touches the cells that the flaw always covers, and possibly if those that it can cover.
	sure, possible cover
}

func boardOf(l api.Lath) *board {
	b := &board{Lath: l, possible: coverIf(l, func(int) bool { return true })}
	for _, f := range l.Flaws {
		if f.Sure {
			b.sure.lay(f.From.Max, f.To.Min, f.Grade)
		}
	}
	return b
}

// coverIf lays the flaws that are there on as many cells as they can cover.
func coverIf(l api.Lath, isThere func(flaw int) bool) (c cover) {
	for i, f := range l.Flaws {
		if isThere(i) {
			c.lay(f.From.Min, f.To.Max, f.Grade)
		}
	}
	return c
}

// cork returns the cork at a position.
func (b *board) cork(at int) piece { return piece{at, b.Width} }

// step is how many cells a cork takes with the gap after it.
func (b *board) step() int { return b.Width + b.Gap }

// worth returns the price of the cork at a position by its greatest and by its least class.
func (b *board) worth(at int) api.Bounds {
	cork := b.cork(at)
	return api.Bounds{Min: b.Prices[b.possible.class(cork)], Max: b.Prices[b.sure.class(cork)]}
}

// positions yields all positions of a piece that is so wide.
func (b *board) positions(width int) iter.Seq[int] {
	return func(yield func(int) bool) {
		for at := 0; at+width <= b.Length; at++ {
			if !yield(at) {
				return
			}
		}
	}
}

// discs returns the positions of the most discs of a class, of several the least list: each disc lies as early as it can, so that the later ones have the most room.
func (b *board) discs(plan []int, width, class int) (discs []int) {
	next := 0 // where the next disc can begin
	for at := range b.positions(width) {
		disc := piece{at, width}
		if at >= next && b.possible.class(disc) <= class && hasRoom(b.Lath, plan, disc) {
			discs = append(discs, at)
			next = disc.end() + b.Gap
		}
	}
	return discs
}
