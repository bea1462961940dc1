package fire

// fewestCleared returns the least of the lists of the fewest cells without which no danger reaches what it is not to reach.
func fewestCleared(dangers []danger, to, may []int) (cells []int, found bool) {
	holds := func(cleared []int) bool {
		for _, d := range dangers {
			if d.reaches(to, cleared) {
				return false
			}
		}
		return true
	}
	// Whatever else is cleared, nothing burns that would not: if all do not help, none do.
	if !holds(may) {
		return nil, false
	}
	return fewest(may, holds)
}

// fewest returns the first of the subsets that are good: of those with the fewest elements, the least one.
func fewest(elements []int, good func([]int) bool) (chosen []int, found bool) {
	var choose func(rest []int, many int) bool
	choose = func(rest []int, many int) bool {
		if many == 0 {
			return good(chosen)
		}
		for i := range len(rest) - many + 1 {
			chosen = append(chosen, rest[i])
			if choose(rest[i+1:], many-1) {
				return true
			}
			chosen = chosen[:len(chosen)-1]
		}
		return false
	}
	for many := range len(elements) + 1 {
		if choose(elements, many) {
			return chosen, true
		}
	}
	return nil, false
}
