package yard

import "sobreiro/api"

// whole is all of something, in thousandths.
const whole = 1000

// sum returns what two numbers are together.
func sum(a, b api.Bounds) api.Bounds {
	return api.Bounds{Min: a.Min + b.Min, Max: a.Max + b.Max}
}

// difference returns by how much a number is more than another one.
func difference(a, b api.Bounds) api.Bounds {
	return api.Bounds{Min: a.Min - b.Max, Max: a.Max - b.Min}
}

// common returns the numbers that are in both. These are no bounds if there is none.
func common(a, b api.Bounds) api.Bounds {
	return api.Bounds{Min: max(a.Min, b.Min), Max: min(a.Max, b.Max)}
}

// part returns what some thousandths of a number are.
func part(of, thousandths api.Bounds) api.Bounds {
	return api.Bounds{Min: of.Min * thousandths.Min / whole, Max: of.Max * thousandths.Max / whole}
}

// left returns what is left of a number without some thousandths of it. It is not the difference of the number and the part: more never leaves less, so that each end comes from one number alone.
func left(of, thousandths api.Bounds) api.Bounds {
	return api.Bounds{
		Min: of.Min - of.Min*thousandths.Max/whole,
		Max: of.Max - of.Max*thousandths.Min/whole,
	}
}
