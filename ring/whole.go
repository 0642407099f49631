package ring

import (
	"math/big"

	"quaver/exact"
)

// whole is a complex number of whole parts.
type whole struct {
	re, im *big.Int
}

// scaled is a polynomial, or a number, as whole coefficients over one denominator: products and sums of these need no common divisors on their way.
type scaled struct {
	list []whole
	den  *big.Int
}

func newWhole() whole {
	return whole{new(big.Int), new(big.Int)}
}

func (a whole) nought() bool {
	return a.re.Sign() == 0 && a.im.Sign() == 0
}

// over is a over den.
func (a whole) over(den *big.Int) exact.Complex {
	return exact.Complex{Re: exact.Over(a.re, den), Im: exact.Over(a.im, den)}
}

// add writes a + b * c over a.
func (a whole) add(b, c whole) {
	var product big.Int
	a.re.Add(a.re, product.Mul(b.re, c.re))
	a.re.Sub(a.re, product.Mul(b.im, c.im))
	a.im.Add(a.im, product.Mul(b.re, c.im))
	a.im.Add(a.im, product.Mul(b.im, c.re))
}

// times is a * n.
func (a whole) times(n *big.Int) whole {
	return whole{new(big.Int).Mul(a.re, n), new(big.Int).Mul(a.im, n)}
}

// scale is p over the least common denominator, in memory of its own.
func scale(p ...exact.Complex) scaled {
	den := exact.Denominator(exact.Parts(p...)...)
	list := make([]whole, len(p))
	for i, c := range p {
		list[i] = whole{c.Re.Raise(den), c.Im.Raise(den)}
	}
	return scaled{list, den}
}

// poly is s as a polynomial.
func (s scaled) poly() Poly {
	list := make(Poly, len(s.list))
	for i, c := range s.list {
		list[i] = c.over(s.den)
	}
	return Trim(list)
}

// Whole is p times the least number that makes its coefficients whole, and that number.
func Whole(p Poly) (Poly, exact.Number) {
	s := scale(p...)
	den := exact.Over(s.den, big.NewInt(1))
	s.den = big.NewInt(1)
	return s.poly(), den
}

// Mul is p * q.
func Mul(p, q Poly) Poly {
	if len(p) == 0 || len(q) == 0 {
		return nil
	}
	a, b := scale(p...), scale(q...)
	product := scaled{make([]whole, len(p)+len(q)-1), new(big.Int).Mul(a.den, b.den)}
	for i := range product.list {
		product.list[i] = newWhole()
	}
	for i, c := range a.list {
		for j, d := range b.list {
			product.list[i+j].add(c, d)
		}
	}
	return product.poly()
}

// Roots is the product of all z - r.
func Roots(list []exact.Complex) Poly {
	product := scale(exact.Real(1))
	for _, r := range list {
		product = product.times(r)
	}
	return product.poly()
}

// times is s * (z - r). Its last coefficient is its denominator, if s's is.
func (s scaled) times(r exact.Complex) scaled {
	root := scale(r.Neg())
	next := scaled{make([]whole, len(s.list)+1), new(big.Int).Mul(s.den, root.den)}
	next.list[0] = newWhole()
	for i, c := range s.list {
		next.list[i].add(root.list[0], c)
		next.list[i+1] = c.times(root.den)
	}
	return next
}

// Eval is the value of p at z.
func Eval(p Poly, z exact.Complex) exact.Complex {
	s, point := scale(p...), scale(z)
	value, den := newWhole(), s.den
	power := big.NewInt(1)
	for i := len(s.list) - 1; i >= 0; i-- {
		next := s.list[i].times(power)
		next.add(value, point.list[0])
		value = next
		if i > 0 {
			power = new(big.Int).Mul(power, point.den)
		}
	}
	return value.over(new(big.Int).Mul(den, power))
}
