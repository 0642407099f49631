package part

import (
	"cmp"
	"math"

	"quaver/api"
)

// rank is x's place in the order of floats, so that a step of Next is a step of 1; of all NaNs one place, above the others.
func rank(x float64) uint64 {
	b := math.Float64bits(x)
	switch {
	case Of(x) == api.NaN:
		return math.MaxUint64
	case b&signBit != 0:
		return ^b
	}
	return b | signBit
}

// at is the float at a place that rank answers.
func at(place uint64) float64 {
	if place&signBit == 0 {
		return math.Float64frombits(^place)
	}
	return math.Float64frombits(place &^ signBit)
}

// Next, Prev: the neighbours of x.
func Next(x float64) float64 {
	if Of(x) == api.NaN || math.IsInf(x, 1) {
		return x
	}
	return at(rank(x) + 1)
}

func Prev(x float64) float64 {
	if Of(x) == api.NaN || math.IsInf(x, -1) {
		return x
	}
	return at(rank(x) - 1)
}

// Ulps: how many steps lie between x and y.
func Ulps(x, y float64) (uint64, api.Errno) {
	if Of(x) == api.NaN || Of(y) == api.NaN {
		return 0, api.ErrNaN
	}
	a, b := rank(x), rank(y)
	return max(a, b) - min(a, b), api.OK
}

// Order: -1, 0 or 1: minus infinity, .., -0, +0, .., infinity, NaN.
func Order(x, y float64) int {
	return cmp.Compare(rank(x), rank(y))
}
