package fire

import (
	"iter"

	"sobreiro/api"
)

// windCount is how many winds there are.
const windCount = 5

// direction is how many rows and columns lie between a cell and the next one.
type direction struct{ down, right int }

// winds are the directions to which the winds blow, by their numbers.
var winds = [windCount]direction{{0, 0}, {-1, 0}, {0, 1}, {1, 0}, {0, -1}}

// possibleWinds yields the winds that are possible on a day, ascending.
func possibleWinds(d api.FireDay) iter.Seq[api.Wind] {
	return func(yield func(api.Wind) bool) {
		for w, possible := range d.Winds {
			if possible && !yield(api.Wind(w)) {
				return
			}
		}
	}
}

// windStrength returns what a wind adds to the strength of a fire that goes in the direction of another one.
func windStrength(wind, toward api.Wind) int {
	a, b := winds[wind], winds[toward]
	return 2 * (a.down*b.down + a.right*b.right)
}

func isCell(l api.Land, cell int) bool { return 0 <= cell && cell < l.Width*l.Height }

// neighbours yields the neighbours of a cell, ascending, and the wind that blows to each one.
func neighbours(l api.Land, cell int) iter.Seq2[int, api.Wind] {
	return func(yield func(int, api.Wind) bool) {
		for _, toward := range [...]api.Wind{api.FrNorth, api.FrWest, api.FrEast, api.FrSouth} {
			row, column := cell/l.Width+winds[toward].down, cell%l.Width+winds[toward].right
			isLand := 0 <= row && row < l.Height && 0 <= column && column < l.Width
			if isLand && !yield(row*l.Width+column, toward) {
				return
			}
		}
	}
}

func areNeighbours(l api.Land, a, b int) bool {
	for neighbour := range neighbours(l, a) {
		if neighbour == b {
			return true
		}
	}
	return false
}

// border is what lies between two neighbours.
type border struct{ low, high int }

func borderOf(a, b int) border { return border{min(a, b), max(a, b)} }

// holdsOf returns the strengths of the walls.
func holdsOf(l api.Land) map[border]int {
	holds := map[border]int{}
	for _, w := range l.Walls {
		holds[borderOf(w.A, w.B)] = w.Hold
	}
	return holds
}
