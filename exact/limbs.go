// Package exact reckons with rational numbers of any size. It takes what it is given to be in form and has no limits and no errors: those are asked by the layers that call it.
package exact

import (
	"math/big"
	"math/bits"
	"slices"
)

const wordsPerLimb = 64 / bits.UintSize

// whole is the natural number of these limbs, lowest first, in memory of its own.
func whole(limbs []uint64) *big.Int {
	words := make([]big.Word, 0, len(limbs)*wordsPerLimb)
	for _, limb := range limbs {
		for j := range wordsPerLimb {
			words = append(words, big.Word(limb>>(j*bits.UintSize)))
		}
	}
	return new(big.Int).SetBits(words)
}

// limbs is x's magnitude, lowest limb first, in memory of its own without spare room.
func limbs(x *big.Int) []uint64 {
	words := x.Bits()
	list := make([]uint64, (len(words)+wordsPerLimb-1)/wordsPerLimb)
	for i, word := range words {
		list[i/wordsPerLimb] |= uint64(word) << (i % wordsPerLimb * bits.UintSize)
	}
	return list
}

// Coprime: have the two, natural numbers that are not both nought, no common divisor but 1?
func Coprime(x, y []uint64) bool {
	return isOne(Divisor(whole(x), whole(y)))
}

// isPower: is x's magnitude a power of two?
func isPower(x *big.Int) bool {
	return x.BitLen() == int(x.TrailingZeroBits())+1
}

// power is 2^n.
func power(n uint) *big.Int {
	return new(big.Int).Lsh(big.NewInt(1), n)
}

func isOne(x *big.Int) bool {
	return x.IsInt64() && x.Int64() == 1
}

// over is x / y, where y divides x.
func over(x, y *big.Int) *big.Int {
	switch {
	case isOne(y):
		return x
	case isPower(y):
		return new(big.Int).Rsh(x, y.TrailingZeroBits())
	}
	return new(big.Int).Quo(x, y)
}

// rest is what is left of x's magnitude, divided by n.
func rest(x *big.Int, n uint64) uint64 {
	var left uint64
	for _, limb := range slices.Backward(limbs(x)) {
		_, left = bits.Div64(left, limb, n)
	}
	return left
}
