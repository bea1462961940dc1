package taint

import "iter"

// whole is a thousand thousandths.
const whole = 1000

// fraction is a probability.
type fraction struct{ num, den int }

// reduced returns the fraction in lowest terms.
func (f fraction) reduced() fraction {
	a, b := f.den, f.num
	for b > 0 {
		a, b = b, a%b
	}
	return fraction{f.num / a, f.den / a}
}

func (f fraction) isAtLeast(thousandths int) bool { return f.num*whole >= thousandths*f.den }

func (f fraction) isAtMost(thousandths int) bool { return f.num*whole <= thousandths*f.den }

// plan is how many corks are drawn, and how many of them can be tainted if the lot is passed.
type plan struct{ sample, most int }

// plans yields all plans for lots of a size, the least sample first, then the least most.
func plans(size int) iter.Seq[plan] {
	return func(yield func(plan) bool) {
		for sample := range size + 1 {
			for most := range sample + 1 {
				if !yield(plan{sample, most}) {
					return
				}
			}
		}
	}
}

// draws returns a function that returns the probability with which a lot of a size and with so many tainted corks is passed.
func draws(size int) func(tainted int, p plan) fraction {
	choose := chooser()
	return func(tainted int, p plan) fraction {
		passed := 0
		for found := range min(p.sample, p.most) + 1 {
			passed += choose(tainted, found) * choose(size-tainted, p.sample-found)
		}
		return fraction{passed, choose(size, p.sample)}
	}
}

// chooser returns a function that counts the sets of some of many things, and remembers what it has counted.
func chooser() func(many, some int) int {
	type choice struct{ many, some int }
	counted := map[choice]int{}
	var choose func(many, some int) int
	choose = func(many, some int) int {
		switch {
		case some > many:
			return 0
		case some == 0:
			return 1
		}
		c := choice{many, some}
		sets, found := counted[c]
		if !found {
			sets = choose(many-1, some-1) + choose(many-1, some)
			counted[c] = sets
		}
		return sets
	}
	return choose
}
