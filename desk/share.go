package desk

// whole is all of something, in thousandths.
const whole = 1000

// tally returns a function that adds numbers up, and returns the sum so far.
func tally() func(n int) int {
	sum := 0
	return func(n int) int {
		sum += n
		return sum
	}
}

// divide returns what each one gets of a sum by its part: the difference of two rounded numbers, so that nothing is lost between two of them.
func divide[T any](sum int, all []T, part func(T) int) (shares []int) {
	total := 0
	for _, one := range all {
		total += part(one)
	}
	parts, given := tally(), 0
	for _, one := range all {
		upTo := parts(part(one)) * sum
		if total > 0 {
			upTo /= total
		}
		shares = append(shares, upTo-given)
		given = upTo
	}
	return shares
}
