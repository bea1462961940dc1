package tree

import (
	"maps"
	"slices"

	"sobreiro/api"
	"sobreiro/terms"
)

// unread is a digit that cannot be read.
const unread = -1

// Dates returns the years that painted digits can mean.
func Dates(rest int, digits []int, years api.Bounds) (l []api.Bounds, ways int, e api.Errno) {
	if e := checkDates(rest, digits, years); e != api.OK {
		return nil, 0, e
	}
	fitting, ways := follow(rest, digits, years)
	if ways == 0 {
		return nil, 0, api.ErrAgainst
	}
	return spans(fitting, rest, years.Max), ways, api.OK
}

func checkDates(rest int, digits []int, years api.Bounds) api.Errno {
	if !terms.Within(rest, 1, api.MaxRest) || !terms.AreBounds(years, 0, api.MaxYear) {
		return api.ErrValue
	}
	if len(digits) > api.MaxStrips {
		return api.ErrCount
	}
	for _, d := range digits {
		if !terms.Within(d, unread, 9) {
			return api.ErrValue
		}
	}
	return api.OK
}

// follow returns for each digit the years of its strip, with the number of rows of years up to this strip that end there; and the number of all rows.
func follow(rest int, digits []int, years api.Bounds) (fitting []map[int]int, ways int) {
	// One row, which is empty, stands before the first strip and leaves it free to lie in any of the years.
	rows := map[int]int{years.Min - rest: 1}
	for _, d := range digits {
		rows = followDigit(rows, d, rest, years)
		fitting = append(fitting, rows)
	}
	for _, n := range rows {
		ways += n
	}
	return fitting, ways
}

// followDigit continues rows by a strip with the digit.
func followDigit(rows map[int]int, digit, rest int, years api.Bounds) map[int]int {
	out := map[int]int{}
	open := 0 // rows that end early enough for a strip in year y
	for y := range eachYear(years) {
		open += rows[y-rest]
		if open > 0 && (digit == unread || y%10 == digit) {
			out[y] = open
		}
	}
	return out
}

// spans returns for each digit the least and the greatest year from which a row can be continued to its end.
func spans(fitting []map[int]int, rest, latest int) []api.Bounds {
	l := make([]api.Bounds, len(fitting))
	for i, rows := range slices.Backward(fitting) {
		maps.DeleteFunc(rows, func(y, _ int) bool { return y > latest })
		left := slices.Sorted(maps.Keys(rows))
		l[i] = api.Bounds{Min: left[0], Max: left[len(left)-1]}
		latest = l[i].Max - rest
	}
	return l
}
