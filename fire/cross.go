package fire

import (
	"slices"

	"sobreiro/api"
	"sobreiro/terms"
)

// danger is a fire that reaches what it is not to reach, on a day with a wind.
type danger struct {
	blaze
	day  int
	wind api.Wind
}

// dangersOf returns the dangers of days, by days and then by winds. Each is the case with the greatest fuels and dryness: what this one does not reach, no other one reaches.
func dangersOf(l api.Land, days []api.FireDay, from, to []int) (dangers []danger) {
	for day, d := range days {
		var blazes [windCount]blaze
		var reached [windCount]bool
		followWinds(d, func(w api.Wind) {
			blazes[w] = blazeOf(l, d, w, from, most)
			reached[w] = blazes[w].reaches(to, nil)
		})
		for w := range possibleWinds(d) {
			if reached[w] {
				dangers = append(dangers, danger{blazes[w], day, w})
			}
		}
	}
	return dangers
}

// noCell is the cell from which fire came to where it began.
const noCell = -1

// path returns the least of the paths of the fewest cells that end in one of some cells, and its hours.
func (b blaze) path(to []int) (path []int, hours int) {
	// An arrival that is late can be on a path of fewer cells than an early one, so that each hour counts.
	// The arrivals stand in the order of the least paths that lead to them: the first way to one is its least.
	before := map[arrival]arrival{}
	var row []arrival
	come := func(a, from arrival) {
		if _, known := before[a]; !known {
			before[a] = from
			row = append(row, a)
		}
	}
	for _, cell := range b.starts {
		come(arrival{cell, 0}, arrival{cell: noCell})
	}
	for i := 0; i < len(row); i++ {
		if slices.Contains(to, row[i].cell) {
			return pathTo(row[i], before), row[i].hour
		}
		for next := range b.after(row[i]) {
			come(next, row[i])
		}
	}
	return nil, 0
}

// pathTo returns the cells of the arrivals that led to one.
func pathTo(last arrival, before map[arrival]arrival) (path []int) {
	for a := last; a.cell != noCell; a = before[a] {
		path = append(path, a.cell)
	}
	slices.Reverse(path)
	return path
}

// isProof says whether labels prove that no cell burns whose label is -1.
func (b blaze) isProof(labels []int) bool {
	isNot := func(label int) bool { return !terms.Within(label, unburnt, b.hours) }
	if slices.ContainsFunc(labels, isNot) {
		return false
	}
	for _, cell := range b.starts {
		if labels[cell] != 0 {
			return false
		}
	}
	for cell, label := range labels {
		if label != unburnt && !b.goesOn(arrival{cell, label}, labels) {
			return false
		}
	}
	return true
}

// goesOn says whether labels allow for all arrivals to which one leads.
func (b blaze) goesOn(a arrival, labels []int) bool {
	for next := range b.after(a) {
		if !terms.Within(labels[next.cell], 0, next.hour) {
			return false
		}
	}
	return true
}
