package fire

import (
	"slices"

	"sobreiro/api"
)

// Graze returns the land after weeks in which its fuel has grown and was eaten.
func Graze(l api.Land, weeks int, grows api.Bounds, eats []api.Bounds) (api.Land, api.Errno) {
	if e := checkGrazing(l, weeks, grows, eats); e != api.OK {
		return api.Land{}, e
	}
	l.Fuel, l.Walls = slices.Clone(l.Fuel), slices.Clone(l.Walls)
	for range weeks {
		for cell, eaten := range eats {
			fuel := &l.Fuel[cell]
			fuel.Min = fuelOf(fuel.Min + grows.Min - eaten.Max)
			fuel.Max = fuelOf(fuel.Max + grows.Max - eaten.Min)
		}
	}
	return l, api.OK
}

// fuelOf returns the fuel that a cell has when so much would be there.
func fuelOf(n int) int { return min(max(n, 0), api.MaxFuel) }

// Dryness returns the bounds of the dryness after each day of rain.
func Dryness(start api.Bounds, rain []api.Bounds) ([]api.Bounds, api.Errno) {
	if e := checkRain(start, rain); e != api.OK {
		return nil, e
	}
	var after []api.Bounds
	dry := start
	for _, r := range rain {
		dry = api.Bounds{Min: dryAfter(dry.Min, r.Max), Max: dryAfter(dry.Max, r.Min)}
		after = append(after, dry)
	}
	return after, api.OK
}

// dryAfter returns the dryness after a day with so much rain.
func dryAfter(dry, rain int) int {
	if rain == 0 {
		return min(dry+1, api.MaxDry)
	}
	return max(dry-rain, 0)
}
