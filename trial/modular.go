package trial

import (
	"math/big"
	"math/bits"
	"slices"

	"quaver/api"
)

// Long numbers over powers of two are held against each other modulo a prime: math/big's Rat takes far too long for them.

const prime = 1<<61 - 1

// left is what a natural number leaves, divided by the prime.
func left(limbs []uint64) *big.Int {
	var rest uint64
	for _, limb := range slices.Backward(limbs) {
		rest = bits.Rem64(rest, limb, prime)
	}
	return new(big.Int).SetUint64(rest)
}

// Stand is a small number that differs from g, whose denominators the prime does not divide, by a multiple of the prime.
func Stand(g api.Gauss) Complex {
	part := func(r api.Rat) *big.Rat {
		x := new(big.Int).ModInverse(left(r.Den), big.NewInt(prime))
		if x.Mul(x, left(r.Num)); r.Neg {
			x.Neg(x)
		}
		return new(big.Rat).SetInt(x)
	}
	return Complex{part(g.Re), part(g.Im)}
}

// Multiple: does the prime divide both parts, which are whole?
func (a Complex) Multiple() bool {
	part := func(x *big.Rat) bool { return new(big.Int).Mod(x.Num(), big.NewInt(prime)).Sign() == 0 }
	return part(a.Re) && part(a.Im)
}

// Reduced: are both denominators powers of two, with no divisor in common with the numerators, and is no nought too much?
func Reduced(g api.Gauss) bool {
	return reduced(g.Re) && reduced(g.Im)
}

func reduced(r api.Rat) bool {
	top := len(r.Den) - 1
	if top < 0 || bits.OnesCount64(r.Den[top]) != 1 || slices.ContainsFunc(r.Den[:top], func(limb uint64) bool { return limb != 0 }) {
		return false
	}
	one := top == 0 && r.Den[0] == 1
	if len(r.Num) == 0 {
		return one && !r.Neg
	}
	return r.Num[len(r.Num)-1] != 0 && (one || r.Num[0]&1 == 1)
}

// Longest is how many limbs the longest number of g has.
func Longest(g api.Gauss) int {
	return max(len(g.Re.Num), len(g.Re.Den), len(g.Im.Num), len(g.Im.Den))
}
