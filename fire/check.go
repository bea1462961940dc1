package fire

import (
	"slices"

	"sobreiro/api"
	"sobreiro/terms"
)

// firstError returns the first error of a list, of which each element is checked after the earlier ones.
func firstError[T any](list []T, check func(x T, earlier []T) api.Errno) api.Errno {
	for i, x := range list {
		if e := check(x, list[:i]); e != api.OK {
			return e
		}
	}
	return api.OK
}

// CheckLand returns the first error of land.
func CheckLand(l api.Land) api.Errno {
	if !isMeasured(l) {
		return api.ErrValue
	}
	if e := checkFuels(l, l.Fuel); e != api.OK {
		return e
	}
	if len(l.Walls) > api.MaxWalls {
		return api.ErrCount
	}
	return firstError(l.Walls, func(w api.Wall, earlier []api.Wall) api.Errno { return checkWall(l, w, earlier) })
}

// isMeasured says whether Width, Height, Limit and Slow are in their ranges.
func isMeasured(l api.Land) bool {
	return isSide(l.Width) && isSide(l.Height) && isStrength(l.Limit) && terms.Within(l.Slow, 1, api.MaxSlow)
}

func isSide(n int) bool { return terms.Within(n, 1, api.MaxSide) }

func isStrength(n int) bool { return terms.Within(n, 0, api.MaxStrength) }

// checkFuels returns the first error of fuels, or of what is eaten of them: one for each cell.
func checkFuels(l api.Land, fuels []api.Bounds) api.Errno {
	if len(fuels) != l.Width*l.Height {
		return api.ErrCount
	}
	return checkBounds(fuels, api.MaxFuel)
}

// checkBounds returns the first error of a list of bounds from 0 to high.
func checkBounds(list []api.Bounds, high int) api.Errno {
	return firstError(list, func(b api.Bounds, _ []api.Bounds) api.Errno {
		if !terms.AreBounds(b, 0, high) {
			return api.ErrValue
		}
		return api.OK
	})
}

// checkWall returns the first error of a wall that comes after the earlier ones.
func checkWall(l api.Land, w api.Wall, earlier []api.Wall) api.Errno {
	isSame := func(o api.Wall) bool { return borderOf(o.A, o.B) == borderOf(w.A, w.B) }
	switch {
	case !isCell(l, w.A) || !isCell(l, w.B):
		return api.ErrMissing
	case !areNeighbours(l, w.A, w.B):
		return api.ErrOrder
	case slices.ContainsFunc(earlier, isSame):
		return api.ErrRepeat
	case !isStrength(w.Hold):
		return api.ErrValue
	}
	return api.OK
}

// CheckDay returns the first error of a day.
func CheckDay(d api.FireDay) api.Errno {
	if !isDry(d.Dry) || !terms.Within(d.Hours, 0, api.MaxBurn) {
		return api.ErrValue
	}
	if d.Winds == [windCount]bool{} {
		return api.ErrCount
	}
	return api.OK
}

func isDry(b api.Bounds) bool { return terms.AreBounds(b, 0, api.MaxDry) }

// checkDays returns the first error of land and days.
func checkDays(l api.Land, days []api.FireDay) api.Errno {
	if e := CheckLand(l); e != api.OK {
		return e
	}
	if len(days) > api.MaxFireDays {
		return api.ErrCount
	}
	return firstError(days, func(d api.FireDay, _ []api.FireDay) api.Errno { return CheckDay(d) })
}

// checkLists returns the first error of land, days and lists of cells.
func checkLists(l api.Land, days []api.FireDay, lists ...[]int) api.Errno {
	if e := checkDays(l, days); e != api.OK {
		return e
	}
	return firstError(lists, func(cells []int, _ [][]int) api.Errno { return checkCells(l, cells) })
}

// checkCells returns the first error of a list of cells.
func checkCells(l api.Land, cells []int) api.Errno {
	return firstError(cells, func(cell int, earlier []int) api.Errno {
		if !isCell(l, cell) {
			return api.ErrMissing
		}
		if n := len(earlier); n > 0 && cell <= earlier[n-1] {
			return api.ErrOrder
		}
		return api.OK
	})
}

// checkWind returns the first error of land, a day, a wind of it, and a list of cells.
func checkWind(l api.Land, d api.FireDay, wind api.Wind, from []int) api.Errno {
	if e := checkDays(l, []api.FireDay{d}); e != api.OK {
		return e
	}
	if !terms.Within(int(wind), 0, windCount-1) || !d.Winds[wind] {
		return api.ErrValue
	}
	return checkCells(l, from)
}

// checkGrazing returns the first error of land, and of what grows and is eaten on it.
func checkGrazing(l api.Land, weeks int, grows api.Bounds, eats []api.Bounds) api.Errno {
	if e := CheckLand(l); e != api.OK {
		return e
	}
	if !terms.Within(weeks, 0, api.MaxGrazed) || !terms.AreBounds(grows, 0, api.MaxFuel) {
		return api.ErrValue
	}
	return checkFuels(l, eats)
}

// checkRain returns the first error of a dryness and of days of rain.
func checkRain(start api.Bounds, rain []api.Bounds) api.Errno {
	if !isDry(start) {
		return api.ErrValue
	}
	if len(rain) > api.MaxRains {
		return api.ErrCount
	}
	return checkBounds(rain, api.MaxRain)
}
