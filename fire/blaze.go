package fire

import (
	"container/heap"
	"iter"
	"slices"
	"sync"

	"sobreiro/api"
)

// step is a neighbour to which fire passes, and in how many hours.
type step struct{ to, hours int }

// blaze is a fire in one case of a day.
type blaze struct {
	starts []int    // the cells in which it begins
	steps  [][]step // from each cell, to ascending ones
	hours  int      // for how many it burns
}

// least and most are the ends of bounds. Nothing burns earlier than with the greatest fuels and dryness, nor later than with the least ones.
func least(b api.Bounds) int { return b.Min }

func most(b api.Bounds) int { return b.Max }

// blazeOf returns the fire with a wind and the fuels and the dryness at an end of their bounds.
func blazeOf(l api.Land, d api.FireDay, wind api.Wind, from []int, end func(api.Bounds) int) blaze {
	b := blaze{steps: make([][]step, len(l.Fuel)), hours: d.Hours}
	for _, cell := range from {
		if end(l.Fuel[cell]) > 0 {
			b.starts = append(b.starts, cell)
		}
	}
	holds := holdsOf(l)
	for cell := range l.Fuel {
		for to, toward := range neighbours(l, cell) {
			fuel := end(l.Fuel[to])
			strength := fuel + end(d.Dry) + windStrength(wind, toward)
			if fuel > 0 && strength >= max(l.Limit, holds[borderOf(cell, to)]) {
				b.steps[cell] = append(b.steps[cell], step{to, max(1, l.Slow-strength)})
			}
		}
	}
	return b
}

// followWinds follows the possible winds of a day, all at once.
func followWinds(d api.FireDay, follow func(api.Wind)) {
	var ways sync.WaitGroup
	for w := range possibleWinds(d) {
		ways.Go(func() { follow(w) })
	}
	ways.Wait()
}

// arrival is that fire comes to a cell at an hour.
type arrival struct{ cell, hour int }

// queue is the arrivals that are still to come, as a heap: it has the methods of heap.Interface.
type queue []arrival

func (q queue) Len() int { return len(q) }

func (q queue) Less(i, j int) bool { return q[i].hour < q[j].hour }

func (q queue) Swap(i, j int) { q[i], q[j] = q[j], q[i] }

// Push puts an arrival at the end, for the heap.
func (q *queue) Push(x any) { *q = append(*q, x.(arrival)) }

// Pop takes the arrival at the end, for the heap.
func (q *queue) Pop() any {
	last := len(*q) - 1
	a := (*q)[last]
	*q = (*q)[:last]
	return a
}

// front is a heap that gives the earliest arrival first.
type front interface {
	heap.Interface
	add(a arrival)
	take() arrival
}

func (q *queue) add(a arrival) { heap.Push(q, a) }

func (q *queue) take() arrival { return heap.Pop(q).(arrival) }

// arrivals yields the cells that burn when some are cleared, with their hours, the earliest ones first.
func (b blaze) arrivals(cleared []int) iter.Seq[arrival] {
	return func(yield func(arrival) bool) {
		// Fire enters a cell once: not again after it has burnt, and never if it is cleared.
		closed := make([]bool, len(b.steps))
		for _, cell := range cleared {
			closed[cell] = true
		}
		var coming front = &queue{}
		for _, cell := range b.starts {
			coming.add(arrival{cell, 0})
		}
		for coming.Len() > 0 {
			a := coming.take()
			if closed[a.cell] {
				continue
			}
			closed[a.cell] = true
			if !yield(a) {
				return
			}
			for next := range b.after(a) {
				if !closed[next.cell] {
					coming.add(next)
				}
			}
		}
	}
}

// after yields the arrivals to which an arrival leads while it burns, by ascending cells.
func (b blaze) after(a arrival) iter.Seq[arrival] {
	return func(yield func(arrival) bool) {
		for _, s := range b.steps[a.cell] {
			next := arrival{s.to, a.hour + s.hours}
			if next.hour <= b.hours && !yield(next) {
				return
			}
		}
	}
}

// labels returns the hour of each cell, or -1.
func (b blaze) labels() []int {
	labels := slices.Repeat([]int{unburnt}, len(b.steps))
	for a := range b.arrivals(nil) {
		labels[a.cell] = a.hour
	}
	return labels
}

// reaches says whether one of some cells burns when others are cleared.
func (b blaze) reaches(to, cleared []int) bool {
	for a := range b.arrivals(cleared) {
		if slices.Contains(to, a.cell) {
			return true
		}
	}
	return false
}
