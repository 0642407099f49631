package exact

import "quaver/api"

// Complex is a complex number of rational parts.
type Complex struct {
	Re, Im Number
}

// ReadComplex is the number that g, in form, is.
func ReadComplex(g api.Gauss) Complex {
	return Complex{Read(g.Re), Read(g.Im)}
}

// Real is the number n without an imaginary part.
func Real(n int64) Complex {
	return Int(n).Complex()
}

// Complex is x without an imaginary part.
func (x Number) Complex() Complex {
	return Complex{x, Int(0)}
}

// Gauss is a in form, in new memory.
func (a Complex) Gauss() api.Gauss {
	return api.Gauss{Re: a.Re.Rat(), Im: a.Im.Rat()}
}

// Parts are the parts of all of these numbers, each one's real part ahead of its imaginary one.
func Parts(list ...Complex) []Number {
	all := make([]Number, 0, 2*len(list))
	for _, a := range list {
		all = append(all, a.Re, a.Im)
	}
	return all
}

// Nought: is a 0?
func (a Complex) Nought() bool {
	return a.Re.Sign() == 0 && a.Im.Sign() == 0
}

// Add is a + b.
func (a Complex) Add(b Complex) Complex {
	return Complex{Add(a.Re, b.Re), Add(a.Im, b.Im)}
}

// Sub is a - b.
func (a Complex) Sub(b Complex) Complex {
	return Complex{Sub(a.Re, b.Re), Sub(a.Im, b.Im)}
}

// Mul is a * b.
func (a Complex) Mul(b Complex) Complex {
	return Complex{
		Sub(Mul(a.Re, b.Re), Mul(a.Im, b.Im)),
		Add(Mul(a.Re, b.Im), Mul(a.Im, b.Re)),
	}
}

// Quo is a / b, where b is not nought.
func (a Complex) Quo(b Complex) Complex {
	turned, norm := a.Mul(b.Conj()), b.Norm()
	return Complex{Quo(turned.Re, norm), Quo(turned.Im, norm)}
}

// Neg is -a.
func (a Complex) Neg() Complex {
	return Complex{Neg(a.Re), Neg(a.Im)}
}

// Conj is a's conjugate.
func (a Complex) Conj() Complex {
	return Complex{a.Re, Neg(a.Im)}
}

// Norm is the square of a's magnitude.
func (a Complex) Norm() Number {
	return Squares(a.Re, a.Im)
}
