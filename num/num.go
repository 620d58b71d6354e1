// Package num is layer 1 (bounded integers and their texts): see shared/doc/01-num.md.
package num

import (
	"math"
	"strconv"
	"strings"

	"liquidcheck/api"
)

// In reports whether n is in bounds: from -MaxInt to MaxInt.
func In(n int) bool {
	return -api.MaxInt <= n && n <= api.MaxInt
}

// Add returns the sum and true, or 0 and false if an argument or the sum is out of bounds.
func Add(a, b int) (int, bool) {
	if !In(a) || !In(b) {
		return 0, false
	}
	return bounded(a + b)
}

// Sub returns the difference and true, or 0 and false if an argument or the difference is out of bounds.
func Sub(a, b int) (int, bool) {
	if !In(a) || !In(b) {
		return 0, false
	}
	return bounded(a - b)
}

// Mul returns the product and true, or 0 and false if an argument or the product is out of bounds.
func Mul(a, b int) (int, bool) {
	if !In(a) || !In(b) {
		return 0, false
	}
	// The product itself can overflow an int, so that its size is known only by a division.
	if a != 0 && magnitude(b) > api.MaxInt/magnitude(a) {
		return 0, false
	}
	return a * b, true
}

// Div returns a/b rounded down and true, or 0 and false if an argument is out of bounds or b is 0.
func Div(a, b int) (int, bool) {
	if !divides(a, b) {
		return 0, false
	}
	q := a / b
	if roundedUp(a, b) {
		q--
	}
	return q, true
}

// Mod returns what Div leaves of a and true, or 0 and false if an argument is out of bounds or b is 0.
func Mod(a, b int) (int, bool) {
	if !divides(a, b) {
		return 0, false
	}
	m := a % b
	if roundedUp(a, b) {
		m += b
	}
	return m, true
}

// Gcd returns the greatest common divisor of the absolute values of any integers.
func Gcd(a, b int) int {
	return euclid(magnitude(a), magnitude(b))
}

// Text returns the decimal notation of any integer.
func Text(n int) string {
	return strconv.Itoa(n)
}

// Parse returns the number in bounds whose Text is s and true, or 0 and false if there is none.
func Parse(s string) (int, bool) {
	digits, negative := strings.CutPrefix(s, "-")
	n := 0
	for i := range len(digits) {
		c := digits[i]
		if c < '0' || c > '9' {
			return 0, false
		}
		n = 10*n + int(c-'0')
		// Stopping here keeps the next digit from overflowing an int.
		if !In(n) {
			return 0, false
		}
	}
	if negative {
		n = -n
	}
	// The digits can also be missing, or 0 behind a minus sign, or behind superfluous zeros.
	if Text(n) != s {
		return 0, false
	}
	return n, true
}

// bounded returns n and true, or 0 and false if n is out of bounds.
func bounded(n int) (int, bool) {
	if !In(n) {
		return 0, false
	}
	return n, true
}

// magnitude returns the absolute value of n. That of the least int, which is no int, counts as MaxInt.
func magnitude(n int) int {
	switch {
	case n == math.MinInt:
		return api.MaxInt
	case n < 0:
		return -n
	}
	return n
}

// divides reports whether a can be divided by b.
func divides(a, b int) bool {
	return In(a) && In(b) && b != 0
}

// roundedUp reports whether Go's a/b, which is rounded towards 0, is above the exact quotient.
func roundedUp(a, b int) bool {
	return a%b != 0 && (a < 0) != (b < 0)
}

// euclid returns the greatest common divisor of numbers that are not negative.
func euclid(a, b int) int {
	if b == 0 {
		return a
	}
	return euclid(b, a%b)
}
