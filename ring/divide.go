package ring

import (
	"math/big"

	"quaver/exact"
)

// QuoRem are the polynomials a and r with p = a * q + r, where r is nought or of a degree below q's; q is not nought.
func QuoRem(p, q Poly) (Poly, Poly) {
	if len(p) < len(q) {
		return nil, p
	}
	rest, divisor := scale(p...), scale(Monic(q)...)
	inverse := exact.Real(1).Quo(q.last())
	quotient := make(Poly, len(p)-len(q)+1)
	for len(rest.list) >= len(q) {
		top := rest.list[len(rest.list)-1]
		quotient[len(rest.list)-len(q)] = top.over(rest.den).Mul(inverse)
		rest.cancel(divisor)
	}
	return quotient, rest.poly()
}

// cancel takes the last coefficient of s away: by the multiple of d, whose last coefficient is 1, that has the same one.
func (s *scaled) cancel(d scaled) {
	last, below := len(s.list)-1, len(d.list)-1
	top := s.list[last]
	s.list = s.list[:last]
	if top.nought() {
		return
	}
	// What top has in common with d's denominator need not be raised: where d divides s, the numbers stay short.
	shared := exact.Divisor(exact.Divisor(d.den, top.re), top.im)
	s.raise(new(big.Int).Quo(d.den, shared))
	times := whole{new(big.Int).Quo(top.re, shared), new(big.Int).Quo(top.im, shared)}
	times.re.Neg(times.re)
	times.im.Neg(times.im)
	for i, c := range d.list[:below] {
		s.list[last-below+i].add(times, c)
	}
}

// raise makes s's denominator n times as great, and its coefficients with it.
func (s *scaled) raise(n *big.Int) {
	s.den = new(big.Int).Mul(s.den, n)
	for i, c := range s.list {
		s.list[i] = c.times(n)
	}
}
