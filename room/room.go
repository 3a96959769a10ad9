// Package room: sums and products of numbers, and whether they have room.
package room

import (
	"math/bits"

	"quotaledger/api"
)

// Sum: false: it has no room.
func Sum(a, b uint64) (uint64, bool) {
	s, carry := bits.Add64(a, b, 0)
	if carry != 0 {
		return 0, false
	}
	return s, true
}

// SumOrNever is the sum, or NEVER if that has no room.
func SumOrNever(a, b uint64) uint64 {
	s, ok := Sum(a, b)
	if !ok {
		return api.Never
	}
	return s
}

// Product: false: it has no room.
func Product(a, b uint64) (uint64, bool) {
	over, p := bits.Mul64(a, b)
	if over != 0 {
		return 0, false
	}
	return p, true
}
