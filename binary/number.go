// Package binary reckons with complex numbers whose parts are whole times a power of two. All sums and products of floats are such, and no step looks for a common divisor.
package binary

import (
	"math/big"

	"quaver/api"
	"quaver/exact"
)

// Number is a complex number. Each part has a power of its own: a part of few bits stays short beside one far above or below it.
type Number struct {
	re, im dyad
}

// Of is the number that a, which is finite, is.
func Of(a complex128) Number {
	return Number{float(real(a)), float(imag(a))}
}

// Whole is the number of these parts. It may keep the two: they are not written again.
func Whole(re, im *big.Int) Number {
	return Number{whole(re), whole(im)}
}

// Nought is 0.
func Nought() Number {
	return Of(0)
}

// Conj is a's conjugate.
func (a Number) Conj() Number {
	return Number{a.re, a.im.neg()}
}

// Add is a + b.
func (a Number) Add(b Number) Number {
	return Number{a.re.add(b.re), a.im.add(b.im)}
}

// Sub is a - b.
func (a Number) Sub(b Number) Number {
	return Number{a.re.sub(b.re), a.im.sub(b.im)}
}

// Mul is a * b.
func (a Number) Mul(b Number) Number {
	return Number{
		a.re.mul(b.re).sub(a.im.mul(b.im)),
		a.re.mul(b.im).add(a.im.mul(b.re)),
	}
}

// IsNought: is a 0?
func (a Number) IsNought() bool {
	return a.re.nought() && a.im.nought()
}

// Quo is a / b, where b is not nought.
func (a Number) Quo(b Number) exact.Complex {
	// The square of b's magnitude is twice as long as b, and not needed where b lies on an axis.
	switch {
	case b.im.nought():
		return a.over(b.re)
	case b.re.nought():
		return Number{a.im, a.re.neg()}.over(b.im)
	}
	return a.Mul(b.Conj()).over(b.Mul(b.Conj()).re)
}

// over is a / x, where x is not nought.
func (a Number) over(x dyad) exact.Complex {
	return exact.Complex{Re: a.re.over(x), Im: a.im.over(x)}
}

// Gauss is a in form, in new memory.
func (a Number) Gauss() api.Gauss {
	return api.Gauss{Re: a.re.rat(), Im: a.im.rat()}
}
