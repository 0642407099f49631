package sturm

import (
	"slices"

	"quaver/exact"
	"quaver/ring"
	"quaver/squares"
	"quaver/whole"
)

// once is the polynomial of p's unlike roots, each of them once.
func once(p ring.Poly) ring.Poly {
	_, roots, _ := ring.Split(p, ring.Derive(p))
	return roots
}

// onLine is how many real roots p has, a polynomial of real coefficients without a root that comes twice.
func onLine(p ring.Poly) int {
	return index(p, ring.Derive(p))
}

// beyond is how many real roots above x such a polynomial has.
func beyond(p ring.Poly, x exact.Number) int {
	num, den := x.Parts()
	cut := ring.Poly{exact.Neg(rational(num)).Complex(), rational(den).Complex()} // of the root x alone
	_, other, _ := ring.Split(p, cut)
	slope := ring.Derive(other)
	// All roots but x, and those above x less those below it.
	return (index(other, slope) + index(other, ring.Mul(cut, slope))) / 2
}

// index is how often q / p leaps from below nought to above it at p's real roots, less how often it leaps the other way (Cauchy's index): at a root that comes once it leaps up, if q has there the sign of p's derivative, else down. Both are real and have no root in common; q's degree is not above p's.
func index(p, q ring.Poly) int {
	up, down := leaps(p, q)
	return up - down
}

// leaps is how many positive and how many negative squares Bezout's matrix has, of two real polynomials without a root in common. The former less the latter are the index (Hermite, Hurwitz). Of a polynomial's imaginary parts and its real ones they are its roots above the real line and those below it.
func leaps(p, q ring.Poly) (up, down int) {
	places := max(len(p), len(q))
	p, q = pad(p, places), pad(q, places)
	return squares.Count(places-1, func(bits int) squares.Matrix {
		return matrix(whole.Round(p, bits), whole.Round(q, bits))
	})
}

// pad is p's coefficients and noughts behind them.
func pad(p ring.Poly, places int) ring.Poly {
	list := make(ring.Poly, places)
	for i := copy(list, p); i < places; i++ {
		list[i] = exact.Real(0)
	}
	return list
}

// matrix is Bezout's matrix of two real polynomials' coefficients: those of the polynomial (p(x) q(y) - q(x) p(y)) / (x - y).
func matrix(p, q []whole.Number) squares.Matrix {
	rows := len(p) - 1
	m := make(squares.Matrix, rows)
	for i := rows - 1; i >= 0; i-- {
		for j := range i + 1 {
			c := p[i+1].Mul(q[j]).Sub(q[i+1].Mul(p[j]))
			if i+1 < rows && j > 0 {
				c = c.Add(m[i+1][j-1])
			}
			m[i] = append(m[i], c)
		}
	}
	return m
}

// line is the sum over j of p's coefficient j times (1 + ix)^j (1 - ix)^(n-j), n p's degree.
func line(p ring.Poly) ring.Poly {
	plus := ring.Poly{exact.Real(1), {Re: exact.Int(0), Im: exact.Int(1)}}
	minus := ring.Conj(plus)
	power := ring.Poly{exact.Real(1)}
	var sum ring.Poly
	for _, c := range slices.Backward(p) {
		sum = ring.Add(ring.Mul(sum, plus), ring.Scale(power, c))
		power = ring.Mul(power, minus)
	}
	return sum
}

// sides is how many roots of p, which is not nought, lie above the real line, on it and below.
func sides(p ring.Poly) (above, on, below int) {
	// The roots of paired lie on the line, or come in pairs of conjugates; no two of the others are conjugates.
	paired, other, _ := ring.Split(p, ring.Conj(p))
	for i, roots := range ring.Square(paired) {
		on += (i + 1) * onLine(roots)
	}
	pairs := (len(paired) - 1 - on) / 2
	re, im := parts(other)
	above, below = leaps(im, re)
	return above + pairs, on, below + pairs
}

// parts is the polynomials of the coefficients' real and imaginary parts, with noughts at their ends.
func parts(p ring.Poly) (re, im ring.Poly) {
	for _, c := range p {
		re, im = append(re, c.Re.Complex()), append(im, c.Im.Complex())
	}
	return re, im
}
