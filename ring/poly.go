// Package ring reckons with polynomials over the complex numbers of rational parts, of any size. Like package exact it takes what it is given to be in form and has no limits and no errors.
package ring

import (
	"quaver/api"
	"quaver/exact"
)

// Poly is a polynomial: the coefficient of z^i at the place i, the last one not nought. It is never written again, once it is made.
type Poly []exact.Complex

// Read is the polynomial that p, in form but for noughts at its end, is.
func Read(p api.Poly) Poly {
	list := make(Poly, len(p))
	for i, c := range p {
		list[i] = exact.ReadComplex(c)
	}
	return Trim(list)
}

// Form is p in form, in new memory.
func (p Poly) Form() api.Poly {
	list := make(api.Poly, len(p))
	for i, c := range p {
		list[i] = c.Gauss()
	}
	return list
}

// Trim leaves noughts at the end out.
func Trim(p Poly) Poly {
	for len(p) > 0 && p[len(p)-1].Nought() {
		p = p[:len(p)-1]
	}
	return p
}

// one is the polynomial 1.
func one() Poly {
	return Poly{exact.Real(1)}
}

// last is the coefficient at p's last place.
func (p Poly) last() exact.Complex {
	return p[len(p)-1]
}

// at is the coefficient of z^i, also where p has no such place.
func (p Poly) at(i int) exact.Complex {
	if i < len(p) {
		return p[i]
	}
	return exact.Real(0)
}

// Add is p + q.
func Add(p, q Poly) Poly {
	return each(exact.Complex.Add, p, q)
}

// Sub is p - q.
func Sub(p, q Poly) Poly {
	return each(exact.Complex.Sub, p, q)
}

// each is what step makes of the coefficients at the same places.
func each(step func(a, b exact.Complex) exact.Complex, p, q Poly) Poly {
	list := make(Poly, max(len(p), len(q)))
	for i := range list {
		list[i] = step(p.at(i), q.at(i))
	}
	return Trim(list)
}

// Scale is each coefficient times g.
func Scale(p Poly, g exact.Complex) Poly {
	list := make(Poly, len(p))
	for i, c := range p {
		list[i] = c.Mul(g)
	}
	return Trim(list)
}

// Monic is p, which is not nought, over its last coefficient.
func Monic(p Poly) Poly {
	return Scale(p, exact.Real(1).Quo(p.last()))
}

// Derive is p's derivative.
func Derive(p Poly) Poly {
	list := make(Poly, max(len(p)-1, 0))
	for i := range list {
		list[i] = p[i+1].Mul(exact.Real(int64(i + 1)))
	}
	return list
}

// Conj is the conjugates of the coefficients.
func Conj(p Poly) Poly {
	list := make(Poly, len(p))
	for i, c := range p {
		list[i] = c.Conj()
	}
	return list
}

// Star is the conjugates of the coefficients in the other order, p taken as of degree n, which is not below its own.
func Star(p Poly, n int) Poly {
	list := make(Poly, n+1)
	for i := range list {
		list[i] = p.at(n - i).Conj()
	}
	return Trim(list)
}
