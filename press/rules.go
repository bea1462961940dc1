package press

import "sobreiro/api"

// breathing is the length of the corks that a step's Breathes are given for.
const breathing = 1000

// fit is a cork in a neck, with real numbers.
type fit struct {
	width, length, bore int
	spring              int // what the cork springs back to, in thousandths of its width
	breath              int // what it would let pass if its length were breathing
}

// need is what is asked of a cork: by the press, and by the depth of a neck.
type need struct {
	api.Press
	depth int
}

// rule is a rule of sealing, and what says whether a fit keeps it.
type rule struct {
	name   api.SealRule
	isKept func(n need, f fit) bool
}

// rules returns the rules in their order.
func rules() [4]rule {
	return [...]rule{
		{api.PsCrush, isWhole},
		{api.PsLoose, isTight},
		{api.PsLong, isShort},
		{api.PsBreath, isClose},
	}
}

// isWhole says whether the jaw does not crush the cork.
func isWhole(n need, f fit) bool { return n.Jaw*whole >= n.Crush*f.width }

// isTight says whether the cork holds in the bore.
func isTight(n need, f fit) bool { return f.width*f.spring/whole >= f.bore+n.Grip }

// isShort says whether the neck is deep enough for the cork.
func isShort(n need, f fit) bool { return f.length <= n.depth }

// isClose says whether the cork lets no more oxygen pass than it may.
func isClose(n need, f fit) bool { return roundedUp(f.breath*breathing, f.length) <= n.Limit }

// roundedUp returns a quotient of numbers that are not below 0.
func roundedUp(a, b int) int { return (a + b - 1) / b }
