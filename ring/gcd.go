package ring

import (
	"quaver/exact"
	"quaver/modular"
)

// Gcd is the polynomial of the greatest degree that divides both, monic; of two noughts nought.
func Gcd(p, q Poly) Poly {
	g, _, _ := Split(p, q)
	return g
}

// Square are the monic polynomials of the roots that p, which is not nought, has once, twice and so on, the last of them not 1. (This is Yun's way.)
func Square(p Poly) []Poly {
	var list []Poly
	_, left, slope := Split(p, Derive(p))
	for len(left) > 1 {
		var once Poly
		once, left, slope = Split(left, Sub(slope, Derive(left)))
		list = append(list, once)
	}
	return list
}

// Split is the greatest common divisor g of p and q, monic, with p over g and q over g.
func Split(p, q Poly) (g, a, b Poly) {
	switch {
	case len(p) < len(q):
		g, b, a = Split(q, p)
		return g, a, b
	case len(p) == 0:
		return nil, nil, nil
	case len(q) == 0:
		return Monic(p), Poly{p.last()}, nil
	case len(q) == 1:
		return one(), p, q
	}
	return search(p, q)
}

// search is Split of polynomials that have roots, q's degree not above p's. Euclid's steps make the numbers longer and longer; in a field of a prime they stay short, and the divisor there has at least the true one's degree. So it is put together from such fields, and is the true one as soon as it divides both.
func search(p, q Poly) (g, a, b Poly) {
	var found guess
	for f := modular.First(); ; f = f.Next() {
		image, told := common(f, p, q)
		if !told || found.places > 0 && image.places() > found.places {
			continue
		}
		if image.places() == 1 {
			return one(), p, q
		}
		if image.places() != found.places {
			found = newGuess(image.places())
			if image.places() == len(q) {
				if a, rest := QuoRem(p, q); len(rest) == 0 {
					return Monic(q), Scale(a, q.last()), Poly{q.last()}
				}
			}
		}
		found.take(f, image)
		if !found.ripe() {
			continue
		}
		if g, a, b = found.try(p, q); g != nil {
			return g, a, b
		}
	}
}

// image is what a polynomial over the complex numbers is in the field of a prime.
type image struct {
	re, im []uint64
}

func (m image) places() int {
	return len(m.re)
}

// common is the image of the greatest common divisor of the images of p and q; not told, where the prime is not fit for it.
func common(f modular.Field, p, q Poly) (image, bool) {
	// i may be either root of -1: the two answers tell the parts.
	x, told := commonBy(f, f.Root(), p, q)
	if !told {
		return image{}, false
	}
	if len(x) == 1 {
		return image{re: x, im: []uint64{0}}, true
	}
	y, told := commonBy(f, f.Sub(0, f.Root()), p, q)
	if !told || len(x) != len(y) {
		return image{}, false
	}
	half := f.Inverse(2)
	turned := f.Mul(half, f.Inverse(f.Root()))
	both := image{make([]uint64, len(x)), make([]uint64, len(x))}
	for i := range x {
		both.re[i] = f.Mul(f.Add(x[i], y[i]), half)
		both.im[i] = f.Mul(f.Sub(x[i], y[i]), turned)
	}
	return both, true
}

// commonBy is the greatest common divisor of p and q in a field, where i stands for a root of -1.
func commonBy(f modular.Field, i uint64, p, q Poly) ([]uint64, bool) {
	x, told := residues(f, i, p)
	y, toldToo := residues(f, i, q)
	if !told || !toldToo {
		return nil, false
	}
	return f.Gcd(x, y), true
}

// residues is p in a field, where i stands for a root of -1; not told, where a denominator or the last coefficient is nought there.
func residues(f modular.Field, i uint64, p Poly) ([]uint64, bool) {
	list := make([]uint64, len(p))
	for j, c := range p {
		re, told := residue(f, c.Re)
		im, toldToo := residue(f, c.Im)
		if !told || !toldToo {
			return nil, false
		}
		list[j] = f.Add(re, f.Mul(im, i))
	}
	return list, list[len(list)-1] != 0
}

func residue(f modular.Field, x exact.Number) (uint64, bool) {
	num, den := x.Rest(f.Prime())
	if den == 0 {
		return 0, false
	}
	if den == 1 || num == 0 {
		return num, true
	}
	return f.Mul(num, f.Inverse(den)), true
}
