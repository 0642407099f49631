// Package binary reckons with complex numbers whose parts are whole over a power of two. All sums and products of floats are such, and no step looks for a common divisor.
package binary

import (
	"math/big"

	"quaver/api"
	"quaver/exact"
	"quaver/numbers"
	"quaver/whole"
)

// Number is steps over 2^places.
type Number struct {
	steps  whole.Number
	places uint
}

// Of is the number that a, which is finite, is.
func Of(a complex128) Number {
	c := exact.ReadComplex(numbers.Exact(a))
	places := max(behind(c.Re), behind(c.Im))
	return Number{whole.Number{Re: c.Re.Whole(places), Im: c.Im.Whole(places)}, uint(places)}
}

// behind is how many binary places x, a float's number, has behind the point.
func behind(x exact.Number) int {
	_, den := x.Parts()
	return den.BitLen() - 1
}

// Nought is 0.
func Nought() Number {
	return Of(0)
}

// Add is a + b.
func (a Number) Add(b Number) Number {
	places := max(a.places, b.places)
	return Number{a.in(places).Add(b.in(places)), places}
}

// Sub is a - b.
func (a Number) Sub(b Number) Number {
	places := max(a.places, b.places)
	return Number{a.in(places).Sub(b.in(places)), places}
}

// in is a times 2^places, of at least as many places as a has.
func (a Number) in(places uint) whole.Number {
	return a.steps.Up(places - a.places)
}

// Mul is a * b.
func (a Number) Mul(b Number) Number {
	return Number{a.steps.Mul(b.steps), a.places + b.places}
}

// Gauss is a in form, in new memory.
func (a Number) Gauss() api.Gauss {
	power := new(big.Int).Lsh(big.NewInt(1), a.places)
	return exact.Complex{Re: exact.Over(a.steps.Re, power), Im: exact.Over(a.steps.Im, power)}.Gauss()
}
