package refl

import (
	"quaver/exact"
	"quaver/ring"
	"quaver/whole"
)

// below1: are all reflection numbers of p, which is not nought, below 1 in magnitude?
func below1(p ring.Poly) bool {
	if len(p) == 1 {
		return true
	}
	if exact.Cmp(p[0].Norm(), p[len(p)-1].Norm()) >= 0 {
		return false
	}
	// Rounded numbers tell it sooner, but for magnitudes that are 1 or come too near to it.
	for bits := 64 + 8*len(p); bits <= 4*longest(p); bits *= 2 {
		if told, sure := rounded(whole.Round(p, bits)); sure {
			return told
		}
	}
	l := start(p)
	for len(l.rung) > 1 {
		if l.rung.gap().Sign() <= 0 {
			return false
		}
		l.step()
	}
	return true
}

// longest is how many bits the longest of the coefficients' numerators and denominators has.
func longest(p ring.Poly) int {
	most := 0
	for _, c := range p {
		for _, x := range []exact.Number{c.Re, c.Im} {
			num, den := x.Parts()
			most = max(most, num.BitLen(), den.BitLen())
		}
	}
	return most
}

// rounded is below1 of a polynomial of coefficients that whole.Round has rounded; not sure, where that leaves it open. A step is multiplied with what it would be divided by.
//
// With parts below 2^reach and errors up to e = 2^loss in magnitude, a product is off by at most (2 * sqrt(2) * 2^reach + e) * e, and the difference of two, where e is not above 2^(reach - 2), by less than 2^(reach + 3) * e. (A greater e leaves no gap that is told.) To be shortened adds less than sqrt(2).
func rounded(list []whole.Number) (told, sure bool) {
	bits, loss := whole.Longest(list), 1
	for len(list) > 1 {
		off := whole.Longest(list) + loss + 3
		next := step(list)
		gap := next[len(next)-1].Re
		if gap.BitLen() <= off {
			return false, false
		}
		if gap.Sign() < 0 {
			return false, true
		}
		down := max(whole.Longest(next)-bits, 0)
		for i, c := range next {
			next[i] = c.Down(uint(down))
		}
		list, loss = next, max(off-down, 1)+1
	}
	return true, true
}
