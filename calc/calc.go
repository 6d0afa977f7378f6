// Package calc is layer 1: sums of 64 bits that never go round. See shared/doc/01-calc.md.
package calc

import (
	"math"
	"math/bits"
)

// Add is two numbers together.
func Add(a, b int64) (int64, bool) {
	if b > 0 && a > math.MaxInt64-b || b < 0 && a < math.MinInt64-b {
		return 0, false
	}
	return a + b, true
}

// Sub is one number less another one.
func Sub(a, b int64) (int64, bool) {
	if b > 0 && a < math.MinInt64+b || b < 0 && a > math.MaxInt64+b {
		return 0, false
	}
	return a - b, true
}

// Mul is one number times another one.
func Mul(a, b int64) (int64, bool) {
	hi, lo := bits.Mul64(size(a), size(b))
	if hi != 0 {
		return 0, false
	}
	if (a < 0) != (b < 0) {
		return minus(lo)
	}
	return Fits(lo)
}

// Neg is a number with the other sign.
func Neg(a int64) (int64, bool) {
	return Sub(0, a)
}

// Sum is all numbers together. It adds in 128 bits: what comes between may lie beyond 64 bits, while the whole does not.
func Sum(l ...int64) (int64, bool) {
	var hi, lo uint64
	for _, x := range l {
		var carry uint64
		lo, carry = bits.Add64(lo, uint64(x), 0)
		hi, _ = bits.Add64(hi, signs(x), carry)
	}
	whole := int64(lo)
	if hi != signs(whole) {
		return 0, false
	}
	return whole, true
}

// Dist is how far a number is above another one.
func Dist(lo, hi int64) uint64 {
	if hi < lo {
		return 0
	}
	// The difference of the bits is right though one of them has a sign: it is less than 2^64.
	return uint64(hi) - uint64(lo)
}

// Clip brings a number between two others.
func Clip(x, lo, hi int64) int64 {
	if x < lo {
		return lo
	}
	if x > hi {
		return hi
	}
	return x
}

// Fits is a number with a sign.
func Fits(x uint64) (int64, bool) {
	if x > math.MaxInt64 {
		return 0, false
	}
	return int64(x), true
}

// size is how far a number is from 0.
func size(a int64) uint64 {
	return Dist(min(a, 0), max(a, 0))
}

// minus is what lies x below 0. It goes by way of x less 1, as the least number has no counterpart above 0.
func minus(x uint64) (int64, bool) {
	if x == 0 {
		return 0, true
	}
	less, ok := Fits(x - 1)
	if !ok {
		return 0, false
	}
	return -less - 1, true
}

// signs is the upper 64 bits of a number in 128 bits: its sign, over and over.
func signs(x int64) uint64 {
	return uint64(x >> 63)
}
