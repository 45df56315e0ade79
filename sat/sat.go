// Package sat has numbers of 64 bits that stop at their ends instead of going round (layer 1).
package sat

import "math"

const (
	least = math.MinInt64
	most  = math.MaxInt64
)

// Add is the sum, or the end that it is beyond (P1.1).
func Add(a, b int64) int64 {
	switch {
	case b > 0 && a > most-b:
		return most
	case b < 0 && a < least-b:
		return least
	}
	return a + b
}

// Sub is the difference, or the end that it is beyond (P1.1).
func Sub(a, b int64) int64 {
	switch {
	case b < 0 && a > most+b:
		return most
	case b > 0 && a < least+b:
		return least
	}
	return a - b
}

// Mul is the product, or the end that it is beyond (P1.1).
func Mul(a, b int64) int64 {
	switch {
	case a == 0 || b == 0:
		return 0
	case exact(a, b):
		return a * b
	case (a < 0) == (b < 0):
		return most
	}
	return least
}

// exact asks by dividing back; neither factor is 0. The least number times -1 wraps onto itself and would divide back, so it is told apart.
func exact(a, b int64) bool {
	return a*b/b == a && !(a == least && b == -1)
}

// Sum is the sum of all, stopped at an end behind each step (P1.1).
func Sum(l ...int64) int64 {
	var sum int64
	for _, n := range l {
		sum = Add(sum, n)
	}
	return sum
}

// Clamp is n, kept from lo to hi; lo wins where both cannot be (P1.2).
func Clamp(n, lo, hi int64) int64 {
	switch {
	case n < lo || hi < lo:
		return lo
	case n > hi:
		return hi
	}
	return n
}

// Floor is a by b, rounded down (P1.2).
func Floor(a, b int64) int64 {
	if b < 1 {
		return 0
	}
	q := a / b
	if a%b < 0 { // the language rounds towards 0
		q--
	}
	return q
}

// Ceil is a by b, rounded up (P1.2).
func Ceil(a, b int64) int64 {
	if b < 1 {
		return 0
	}
	q := a / b
	if a%b > 0 {
		q++
	}
	return q
}

// Narrow is what is left of n in so many bits, and whether that is all of it (P1.3).
func Narrow(n int64, bits int) (int64, bool) {
	if bits < 1 || bits > 64 {
		return 0, false
	}
	away := uint(64 - bits)
	kept := n << away >> away
	return kept, kept == n
}
