// Package whole reckons with complex numbers of whole parts, exact ones and rounded ones.
package whole

import (
	"math/big"
	"slices"

	"quaver/exact"
)

// Number is a complex number of whole parts. What its pointers lead to is never written again, once it is made.
type Number struct {
	Re, Im *big.Int
}

// Round is all of these numbers times one power of two: each part whole, up to 2^bits in magnitude, and off by less than 1.
func Round(list []exact.Complex, bits int) []Number {
	up := bits - reach(list)
	rounded := make([]Number, len(list))
	for i, c := range list {
		rounded[i] = Number{c.Re.Whole(up), c.Im.Whole(up)}
	}
	return rounded
}

// reach is the least power of two that all parts are told to lie below; of noughts alone 0.
func reach(list []exact.Complex) int {
	var all []int
	for _, c := range list {
		for _, x := range []exact.Number{c.Re, c.Im} {
			if x.Sign() != 0 {
				all = append(all, x.Reach())
			}
		}
	}
	if len(all) == 0 {
		return 0
	}
	return slices.Max(all)
}

// Conj is a's conjugate.
func (a Number) Conj() Number {
	return Number{a.Re, new(big.Int).Neg(a.Im)}
}

// Add is a + b.
func (a Number) Add(b Number) Number {
	return Number{new(big.Int).Add(a.Re, b.Re), new(big.Int).Add(a.Im, b.Im)}
}

// Sub is a - b.
func (a Number) Sub(b Number) Number {
	return Number{new(big.Int).Sub(a.Re, b.Re), new(big.Int).Sub(a.Im, b.Im)}
}

// Mul is a * b.
func (a Number) Mul(b Number) Number {
	var product big.Int
	re, im := new(big.Int).Mul(a.Re, b.Re), new(big.Int).Mul(a.Re, b.Im)
	re.Sub(re, product.Mul(a.Im, b.Im))
	im.Add(im, product.Mul(a.Im, b.Re))
	return Number{re, im}
}

// Down is a over 2^n, each part rounded down.
func (a Number) Down(n uint) Number {
	return Number{new(big.Int).Rsh(a.Re, n), new(big.Int).Rsh(a.Im, n)}
}

// Over is a * 2^n over x, each part rounded towards nought.
func (a Number) Over(x *big.Int, n uint) Number {
	re, im := new(big.Int).Lsh(a.Re, n), new(big.Int).Lsh(a.Im, n)
	return Number{re.Quo(re, x), im.Quo(im, x)}
}

// Greater is the magnitude of the part that has the greater one.
func (a Number) Greater() *big.Int {
	if a.Re.CmpAbs(a.Im) >= 0 {
		return new(big.Int).Abs(a.Re)
	}
	return new(big.Int).Abs(a.Im)
}

// Longest is how many bits the longest of all parts has.
func Longest(list []Number) int {
	most := 0
	for _, a := range list {
		most = max(most, a.Re.BitLen(), a.Im.BitLen())
	}
	return most
}

// Nought: is a 0?
func (a Number) Nought() bool {
	return a.Re.Sign() == 0 && a.Im.Sign() == 0
}

// Times is a * n.
func (a Number) Times(n *big.Int) Number {
	return Number{new(big.Int).Mul(a.Re, n), new(big.Int).Mul(a.Im, n)}
}

// QuoRem is a over n, each part rounded towards nought, and what that leaves.
func (a Number) QuoRem(n *big.Int) (quotient, rest Number) {
	quotient, rest = Number{new(big.Int), new(big.Int)}, Number{new(big.Int), new(big.Int)}
	quotient.Re.QuoRem(a.Re, n, rest.Re)
	quotient.Im.QuoRem(a.Im, n, rest.Im)
	return quotient, rest
}

// Common is these numbers over one denominator, the least one: what stands above it, and it.
func Common(list ...exact.Complex) ([]Number, *big.Int) {
	den := exact.Denominator(exact.Parts(list...)...)
	above := make([]Number, len(list))
	for i, c := range list {
		above[i] = Number{c.Re.Raise(den), c.Im.Raise(den)}
	}
	return above, den
}
