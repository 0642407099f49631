// Package part is layer 1: see shared/doc/01-part.md.
package part

import (
	"math"

	"quaver/api"
)

// The layout of a float64: sign, power, fraction, from the highest bit down.
const (
	signBit      = 1 << 63
	fractionBits = 52
	fractionMask = 1<<fractionBits - 1
	topPower     = 2047
	infiniteBits = topPower << fractionBits
	leastPower   = -1074 // of two, in the least subnormal number
)

// take takes x apart: its sign, its power and its fraction.
func take(x float64) (bool, int, uint64) {
	b := math.Float64bits(x)
	return b&signBit != 0, int(b >> fractionBits & topPower), b & fractionMask
}

// put sets the sign of a float of these bits.
func put(neg bool, b uint64) float64 {
	if neg {
		b |= signBit
	}
	return math.Float64frombits(b)
}

// Of: what kind of number x is.
func Of(x float64) api.Class {
	_, power, fraction := take(x)
	switch {
	case power == 0 && fraction == 0:
		return api.Zero
	case power == 0:
		return api.Subnormal
	case power < topPower:
		return api.Normal
	case fraction == 0:
		return api.Infinite
	}
	return api.NaN
}

// Split: x is m * 2^e, with a minus sign where neg.
func Split(x float64) (bool, uint64, int, api.Errno) {
	neg, power, fraction := take(x)
	switch power {
	case topPower:
		return false, 0, 0, api.ErrNaN
	case 0:
		return neg, fraction, leastPower, api.OK
	}
	return neg, fraction | 1<<fractionBits, power - 1 + leastPower, api.OK
}

// Same: are the two one number, bit by bit (NaNs are one)?
func Same(x, y float64) bool {
	if Of(x) == api.NaN || Of(y) == api.NaN {
		return Of(x) == Of(y)
	}
	return math.Float64bits(x) == math.Float64bits(y)
}

// Flush: x, a subnormal one as the nought of its sign.
func Flush(x float64) float64 {
	if Of(x) != api.Subnormal {
		return x
	}
	return math.Copysign(0, x)
}
