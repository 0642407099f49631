package schur

import (
	"math/big"

	"quaver/exact"
	"quaver/ring"
	"quaver/squares"
	"quaver/whole"
)

// count is how many roots of p, which is not nought, lie inside the circle, on it and outside.
func count(p ring.Poly) (inside, on, outside int) {
	noughts := 0
	for p[noughts].Nought() {
		noughts++
	}
	p = p[noughts:]
	// The roots of mirrored lie on the circle, or come in pairs of mirror images, one inside and one outside; no two of the others are mirror images.
	mirrored, other, _ := ring.Split(p, ring.Star(p, len(p)-1))
	inside, outside = apart(other)
	pairs := 0
	if len(mirrored) > 1 {
		// Such a polynomial has as many roots outside as its derivative has (Cohn).
		_, _, pairs = count(ring.Derive(mirrored))
	}
	return noughts + inside + pairs, len(mirrored) - 1 - 2*pairs, outside + pairs
}

// apart is how many roots lie inside and how many outside, where no root is on the circle or another one's mirror image.
func apart(p ring.Poly) (inside, outside int) {
	return squares.Count(len(p)-1, func(bits int) squares.Matrix {
		return matrix(whole.Round(p, bits))
	})
}

// matrix is the matrix of Schur and Cohn of a polynomial's coefficients. It has a positive square for each root inside and a negative one for each root outside.
func matrix(list []whole.Number) squares.Matrix {
	last := len(list) - 1
	m := make(squares.Matrix, last)
	for j := range m {
		for k := range j + 1 {
			c := list[last-j].Mul(list[last-k].Conj()).Sub(list[j].Conj().Mul(list[k]))
			if k > 0 {
				c = c.Add(m[j-1][k-1])
			}
			m[j] = append(m[j], c)
		}
	}
	return m
}

// shrink is a polynomial whose roots are p's over r, which is above nought.
func shrink(p ring.Poly, r exact.Number) ring.Poly {
	num, den := r.Parts()
	ups, downs := powers(num, len(p)), powers(den, len(p))
	list := make(ring.Poly, len(p))
	for i, c := range p {
		// Not r^i alone: whole coefficients stay whole, and no common divisors are looked for.
		times := exact.Mul(ups[i], downs[len(p)-1-i])
		list[i] = exact.Complex{Re: exact.Mul(c.Re, times), Im: exact.Mul(c.Im, times)}
	}
	return list
}

// powers is the first n powers of x, from 1 on.
func powers(x *big.Int, n int) []exact.Number {
	list := []exact.Number{exact.Int(1)}
	for len(list) < n {
		list = append(list, exact.Mul(list[len(list)-1], exact.Over(x, big.NewInt(1))))
	}
	return list
}
