// Package digits has numbers as decimal digits, each number in one way alone: with - ahead below 0, without noughts ahead.
package digits

import "strconv"

// Text is the number's digits.
func Text(n int64) string {
	return strconv.FormatInt(n, 10)
}

// Parse is the number whose Text s is, if there is one.
func Parse(s string) (int64, bool) {
	n, err := strconv.ParseInt(s, 10, 64)
	if err != nil || Text(n) != s { // a sign or noughts that Text has not
		return 0, false
	}
	return n, true
}
