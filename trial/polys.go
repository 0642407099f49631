package trial

import (
	"math/big"

	"quaver/api"
)

// Fraction is a + bi over d, which is above nought.
func Fraction(a, b, d int64) Complex {
	return Complex{big.NewRat(a, d), big.NewRat(b, d)}
}

// Unit is the point (d + ni)^2 / (d^2 + n^2) of the circle; n and d are not both nought.
func Unit(n, d int64) Complex {
	z := Fraction(d, n, 1)
	return z.Quo(z.Conj())
}

// Stretched is a times x.
func (a Complex) Stretched(x *big.Rat) Complex {
	return Complex{new(big.Rat).Mul(a.Re, x), new(big.Rat).Mul(a.Im, x)}
}

// Mirror is a's image in the circle; a is not nought.
func (a Complex) Mirror() Complex {
	return Fraction(1, 0, 1).Quo(a.Conj())
}

// Beside1 is 1 + n * 2^-1000.
func Beside1(n int64) *big.Rat {
	x := new(big.Rat).Mul(Up(-1000), big.NewRat(n, 1))
	return x.Add(x, Up(0))
}

// Lines is the product of all z - r.
func Lines(list ...Complex) api.Poly {
	all := Line{Fraction(1, 0, 1)}
	for _, r := range list {
		all = all.Mul(Line{Fraction(0, 0, 1).Sub(r), Fraction(1, 0, 1)})
	}
	return all.Poly()
}

// Multiplied is the product of these polynomials.
func Multiplied(list ...api.Poly) api.Poly {
	all := Line{Fraction(1, 0, 1)}
	for _, p := range list {
		all = all.Mul(ValuePoly(p))
	}
	return all.Poly()
}

// Sparse is the polynomial z^n + a + bi, n above nought.
func Sparse(n int, a, b int64) api.Poly {
	list := noughts(n + 1)
	list[0], list[n] = Fraction(a, b, 1), Fraction(1, 0, 1)
	return list.Poly()
}

// Places are roots of all kinds: noughts, points of the circle and beside it, mirror images and conjugates of others, some of them several times, real ones and others.
func (m *Mixer) Places(n int) []Complex {
	var list []Complex
	small := func(most int) int64 { return int64(m.Below(2*most+1) - most) }
	for len(list) < n {
		unit := Unit(small(3), int64(1+m.Below(3)))
		next := Fraction(small(9), small(9), int64(1+m.Below(6)))
		old := next
		if len(list) > 0 {
			old = list[m.Below(len(list))]
		}
		switch kind := m.Below(12); {
		case kind == 0:
			next = Fraction(0, 0, 1)
		case kind <= 2:
			next = unit
		case kind == 3:
			next = unit.Stretched(Beside1(small(2)))
		case kind == 4 && !old.Nought():
			next = old.Mirror()
		case kind <= 6:
			next = old
		case kind == 7:
			next = old.Conj()
		case kind == 8:
			next = Fraction(small(9), 0, int64(1+m.Below(6)))
		case kind == 9:
			next = ValueGauss(m.Gauss(1))
		}
		list = append(list, next)
	}
	return list
}
