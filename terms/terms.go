// Package terms contains what the document's section Terms defines for all layers: codes, bounds, and the lines and numbers of texts.
package terms

import "sobreiro/api"

// IsCode says whether a string is a code.
func IsCode(s string) bool {
	if s == "" || len(s) > api.MaxCode || !isCapital(s[0]) {
		return false
	}
	for i := 1; i < len(s); i++ {
		if !isCapital(s[i]) && !isDigit(s[i]) && s[i] != '-' {
			return false
		}
	}
	return true
}

func isCapital(c byte) bool { return 'A' <= c && c <= 'Z' }

func isDigit(c byte) bool { return '0' <= c && c <= '9' }

// Within says whether a number is from low to high.
func Within(n, low, high int) bool { return low <= n && n <= high }

// AreBounds says whether b are bounds from low to high.
func AreBounds(b api.Bounds, low, high int) bool {
	return low <= b.Min && b.Min <= b.Max && b.Max <= high
}
