package resp

import (
	"math/big"

	"quaver/api"
	"quaver/binary"
	"quaver/entry"
	"quaver/exact"
	"quaver/numbers"
	"quaver/whole"
)

// Exact: the true one.
func Exact(f api.Filter, z api.Gauss) (api.Gauss, api.Errno) {
	if len(f.Sections) > api.MaxSections {
		return api.Gauss{}, api.ErrLong
	}
	if e := entry.Gausses(z); e != api.OK {
		return api.Gauss{}, e
	}
	if entry.Nought(z) {
		return api.Gauss{}, api.ErrZero
	}
	p := powersOf(z)
	if p.pole(f) {
		return api.Gauss{}, api.ErrZero
	}
	if !numbers.Finite(all(f)...) {
		return api.Gauss{}, api.ErrNaN
	}
	return p.answer(f), api.OK
}

// all are the filter's numbers.
func all(f api.Filter) []complex128 {
	list := []complex128{f.Gain}
	for _, s := range f.Sections {
		list = append(list, numbers.Coefficients(s)...)
	}
	return list
}

// powers are z^2, z and 1, all times the square of the least number that makes z's parts whole. They stand for 1, 1/z and 1/z^2 in numerators and denominators alike, and no step between them looks for a common divisor.
type powers [3]binary.Number

// powersOf tells those of z, which is in form and not nought.
func powersOf(z api.Gauss) powers {
	above, den := whole.Common(exact.ReadComplex(z))
	top, below := binary.Whole(above[0].Re, above[0].Im), binary.Whole(den, new(big.Int))
	return powers{top.Mul(top), top.Mul(below), below.Mul(below)}
}

// at is c0 + c1/z + c2/z^2 as the powers have it.
func (p powers) at(c ...complex128) binary.Number {
	v := binary.Nought()
	for i, a := range c {
		v = v.Add(binary.Of(a).Mul(p[i]))
	}
	return v
}

// pole: is the denominator of a section nought there, so far as its numbers are finite?
func (p powers) pole(f api.Filter) bool {
	for _, s := range f.Sections {
		if numbers.Finite(s.A1, s.A2) && p.at(1, s.A1, s.A2).IsNought() {
			return true
		}
	}
	return false
}

// answer is the true one of a filter of finite numbers that has no pole there.
func (p powers) answer(f api.Filter) api.Gauss {
	top, below := binary.Of(f.Gain), binary.Of(1)
	for _, s := range f.Sections {
		top = top.Mul(p.at(s.B0, s.B1, s.B2))
		below = below.Mul(p.at(1, s.A1, s.A2))
	}
	return top.Quo(below).Gauss()
}

// Far: how far a number lies from a true one: the square of the distance.
func Far(a complex128, g api.Gauss) (api.Rat, api.Errno) {
	if e := entry.Gausses(g); e != api.OK {
		return api.Rat{}, e
	}
	if !numbers.Finite(a) {
		return api.Rat{}, api.ErrNaN
	}
	way := exact.ReadComplex(numbers.Exact(a)).Sub(exact.ReadComplex(g))
	return way.Norm().Rat(), api.OK
}
