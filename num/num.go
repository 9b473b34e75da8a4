// Package num is whole numbers of 64 bits that do not go round: see shared/doc/01-num.md.
package num

import (
	"math/bits"
	"strconv"
)

// longest is the length of the longest Dec, that of the least int64.
const longest = len("-9223372036854775808")

// Add tells the sum of a and b.
func Add(a, b int64) (int64, bool) {
	sum := a + b
	if !apart(a, b) && apart(a, sum) {
		return 0, false
	}
	return sum, true
}

// Sub tells a less b.
func Sub(a, b int64) (int64, bool) {
	rest := a - b
	if apart(a, b) && apart(a, rest) {
		return 0, false
	}
	return rest, true
}

// Mul tells the product of a and b.
func Mul(a, b int64) (int64, bool) {
	x, y, below := sizes(a, b)
	high, low := bits.Mul64(x, y)
	if high != 0 {
		return 0, false
	}
	return signed(low, below)
}

// Div tells the quotient of a and b, cut towards 0.
func Div(a, b int64) (int64, bool) {
	if b == 0 {
		return 0, false
	}
	x, y, below := sizes(a, b)
	return signed(x/y, below)
}

// Mod tells what Div leaves of a.
func Mod(a, b int64) (int64, bool) {
	quotient, ok := Div(a, b)
	if !ok {
		return 0, false
	}
	return a - b*quotient, true
}

// Pow tells a multiplied b times.
func Pow(a, b int64) (int64, bool) {
	if b < 0 {
		return 0, false
	}
	if a >= -1 && a <= 1 {
		// Their powers never grow out of an int64, and two steps on they are the same again (0 times: 1).
		b = min(b, 2-b%2)
	}
	power := int64(1)
	for range b {
		// What has grown too great never shrinks again, so this ends within 64 rounds.
		next, ok := Mul(power, a)
		if !ok {
			return 0, false
		}
		power = next
	}
	return power, true
}

// Gcd tells the greatest number that divides both a and b; of 0 and 0 it is 0.
func Gcd(a, b int64) (int64, bool) {
	x, y, _ := sizes(a, b)
	for y != 0 {
		x, y = y, x%y
	}
	return signed(x, false)
}

// Dec tells a's decimal digits, with - ahead of what is below 0.
func Dec(a int64) string { return strconv.FormatInt(a, 10) }

// Parse tells the number whose Dec s is.
func Parse(s string) (int64, bool) {
	if len(s) > longest { // strconv's error would hold a copy of it
		return 0, false
	}
	n, err := strconv.ParseInt(s, 10, 64)
	if err != nil || Dec(n) != s {
		return 0, false
	}
	return n, true
}

// sizes tells how far from 0 a and b are, and whether just one of them is below it.
// The size of the least int64 is no int64, so sizes have no sign.
func sizes(a, b int64) (x, y uint64, below bool) {
	x, y = uint64(a), uint64(b)
	switch {
	case a < 0 && b < 0:
		y, below = -y, !below
		fallthrough
	case a < 0:
		x, below = -x, !below
	case b < 0:
		y, below = -y, !below
	}
	return x, y, below
}

// apart tells whether just one of a and b is below 0.
func apart(a, b int64) bool {
	_, _, below := sizes(a, b)
	return below
}

// signed tells the number of that size, below 0 or not; false, if it is no int64.
func signed(size uint64, below bool) (int64, bool) {
	switch {
	case !below && size < 1<<63:
		return int64(size), true
	case below && size <= 1<<63:
		return int64(-size), true
	}
	return 0, false
}
