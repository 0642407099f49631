package trial

import (
	"math/big"

	"quaver/api"
)

// Complex is a complex number of rational parts, reckoned by math/big's own Rat.
type Complex struct {
	Re, Im *big.Rat
}

// ValueGauss is what g is.
func ValueGauss(g api.Gauss) Complex {
	return Complex{Value(g.Re), Value(g.Im)}
}

// Exactly is the number that z, which is finite, is.
func Exactly(z complex128) Complex {
	return Complex{True(real(z)), True(imag(z))}
}

// Near is the complex128 nearest to a; an infinity stands for a part that has none.
func (a Complex) Near() complex128 {
	return complex(Rounded(a.Re, 1), Rounded(a.Im, 1))
}

// Gauss is a as the Gauss in form that it must be.
func (a Complex) Gauss() api.Gauss {
	return api.Gauss{Re: Told(a.Re), Im: Told(a.Im)}
}

func (a Complex) Nought() bool {
	return a.Re.Sign() == 0 && a.Im.Sign() == 0
}

func (a Complex) Add(b Complex) Complex {
	return Complex{new(big.Rat).Add(a.Re, b.Re), new(big.Rat).Add(a.Im, b.Im)}
}

func (a Complex) Sub(b Complex) Complex {
	return Complex{new(big.Rat).Sub(a.Re, b.Re), new(big.Rat).Sub(a.Im, b.Im)}
}

func (a Complex) Mul(b Complex) Complex {
	rr, ii := new(big.Rat).Mul(a.Re, b.Re), new(big.Rat).Mul(a.Im, b.Im)
	ri, ir := new(big.Rat).Mul(a.Re, b.Im), new(big.Rat).Mul(a.Im, b.Re)
	return Complex{rr.Sub(rr, ii), ri.Add(ri, ir)}
}

// Quo is a / b, where b is not nought.
func (a Complex) Quo(b Complex) Complex {
	up, norm := a.Mul(b.Conj()), b.Norm()
	return Complex{up.Re.Quo(up.Re, norm), up.Im.Quo(up.Im, norm)}
}

func (a Complex) Norm() *big.Rat {
	rr, ii := new(big.Rat).Mul(a.Re, a.Re), new(big.Rat).Mul(a.Im, a.Im)
	return rr.Add(rr, ii)
}

func (a Complex) Conj() Complex {
	return Complex{a.Re, new(big.Rat).Neg(a.Im)}
}

// Line is a polynomial of such numbers, the one of z^0 first.
type Line []Complex

// ValuePoly is what p is.
func ValuePoly(p api.Poly) Line {
	list := make(Line, len(p))
	for i, c := range p {
		list[i] = ValueGauss(c)
	}
	return list
}

// Poly is p as the Poly in form that it must be.
func (p Line) Poly() api.Poly {
	list := api.Poly{}
	for _, c := range p.Trim() {
		list = append(list, c.Gauss())
	}
	return list
}

// Trim leaves noughts at the end out.
func (p Line) Trim() Line {
	for len(p) > 0 && p[len(p)-1].Nought() {
		p = p[:len(p)-1]
	}
	return p
}

// noughts is so many noughts.
func noughts(n int) Line {
	list := make(Line, n)
	for i := range list {
		list[i] = Complex{new(big.Rat), new(big.Rat)}
	}
	return list
}

func (p Line) Add(q Line) Line {
	list := noughts(max(len(p), len(q)))
	for i, c := range p {
		list[i] = list[i].Add(c)
	}
	for i, c := range q {
		list[i] = list[i].Add(c)
	}
	return list.Trim()
}

func (p Line) Mul(q Line) Line {
	list := noughts(len(p) + len(q))
	for i, c := range p {
		for j, d := range q {
			list[i+j] = list[i+j].Add(c.Mul(d))
		}
	}
	return list.Trim()
}

// QuoRem is the long division that is taught at school; q is not nought.
func (p Line) QuoRem(q Line) (Line, Line) {
	quotient := noughts(len(p))
	rest := p.Trim()
	for len(rest) >= len(q) {
		place := len(rest) - len(q)
		c := rest[len(rest)-1].Quo(q[len(q)-1])
		quotient[place] = c
		next := noughts(len(rest))
		copy(next, rest)
		for i, d := range q {
			next[place+i] = next[place+i].Sub(c.Mul(d))
		}
		rest = next.Trim()
	}
	return quotient.Trim(), rest
}

// Monic is p over its last coefficient; of nought nought.
func (p Line) Monic() Line {
	list := make(Line, len(p))
	for i, c := range p {
		list[i] = c.Quo(p[len(p)-1])
	}
	return list
}

// Gcd is found by Euclid's steps.
func (p Line) Gcd(q Line) Line {
	for len(q) > 0 {
		_, rest := p.QuoRem(q)
		p, q = q, rest.Monic()
	}
	return p.Monic()
}
