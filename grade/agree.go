package grade

import "sobreiro/api"

// Agree returns of how many items two graders both gave a class, of how many the same one, and how much more than by chance that is.
func Agree(p api.Panel, a, b int) (g api.Agreement, e api.Errno) {
	if e := Check(p); e != api.OK {
		return api.Agreement{}, e
	}
	if !isIndex(a, len(p.Graders)) || !isIndex(b, len(p.Graders)) {
		return api.Agreement{}, api.ErrMissing
	}
	other := classesBy(p, b)
	var timesA, timesB [api.MaxCuts + 1]int
	for item, class := range classesBy(p, a) {
		second, both := other[item]
		if !both {
			continue
		}
		g.Both++
		if class == second {
			g.Same++
		}
		timesA[class]++
		timesB[second]++
	}
	chance := 0
	for class, times := range timesA {
		chance += times * timesB[class]
	}
	g.Num, g.Den = beyondChance(g.Both, g.Same, chance)
	return g, api.OK
}

// classesBy returns the class that a grader gave each item, by the item.
func classesBy(p api.Panel, grader int) map[int]int {
	classes := map[int]int{}
	for _, o := range p.Opinions {
		if o.Grader == grader {
			classes[o.Item] = o.Class
		}
	}
	return classes
}

// beyondChance returns, as a fraction, how much more than by chance some of both are the same, when so many of both times both are the same by chance.
func beyondChance(both, same, chance int) (num, den int) {
	switch {
	case both == 0:
		return 0, 1
	case both == same:
		return 1, 1 // chance may leave nothing to divide by
	default:
		return reduced(both*same-chance, both*both-chance)
	}
}

// reduced returns a fraction whose den is greater than 0 in lowest terms.
func reduced(num, den int) (int, int) {
	var divisor func(a, b int) int
	divisor = func(a, b int) int {
		if b == 0 {
			return a
		}
		return divisor(b, a%b)
	}
	d := divisor(den, max(num, -num))
	return num / d, den / d
}
