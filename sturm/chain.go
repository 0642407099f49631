package sturm

import (
	"math/big"
	"slices"

	"quaver/exact"
	"quaver/ring"
)

// link is a real polynomial: whole coefficients without a common divisor, the last one not nought, times a factor. The remainders' own coefficients become far longer from step to step than these.
type link struct {
	factor exact.Number
	list   []*big.Int
}

// chain is Sturm's chain of a polynomial of real coefficients that is not nought.
func chain(p ring.Poly) []link {
	var list []link
	last, next := read(p), read(ring.Derive(p))
	for len(next.list) > 0 {
		list = append(list, last)
		last, next = next, follow(last, next)
	}
	return append(list, last)
}

// read is the link of a polynomial of real coefficients.
func read(p ring.Poly) link {
	p, den := ring.Whole(p)
	var list []*big.Int
	for _, c := range p {
		num, _ := c.Re.Parts()
		list = append(list, num)
	}
	return short(exact.Quo(exact.Int(1), den), list)
}

// short is factor times the polynomial of these coefficients; of noughts alone it has no places.
func short(factor exact.Number, list []*big.Int) link {
	shared, places := new(big.Int), 0
	for i, c := range list {
		if c.Sign() != 0 {
			shared, places = exact.Divisor(shared, c), i+1
		}
	}
	made := link{exact.Mul(factor, rational(shared)), make([]*big.Int, places)}
	for i, c := range list[:places] {
		made.list[i] = new(big.Int).Quo(c, shared)
	}
	return made
}

// whole is a whole number as a rational one.
func rational(n *big.Int) exact.Number {
	return exact.Over(n, big.NewInt(1))
}

// follow is minus the remainder of a by b.
func follow(a, b link) link {
	factor, rest := exact.Neg(a.factor), slices.Clone(a.list)
	below := len(b.list) - 1
	last := b.list[below]
	for len(rest) > below {
		place := len(rest) - 1 - below
		top := rest[len(rest)-1]
		rest = rest[:len(rest)-1]
		if top.Sign() == 0 {
			continue
		}
		// Times the divisor's last coefficient, so that all stays whole.
		factor = exact.Quo(factor, rational(last))
		for i, c := range rest {
			rest[i] = new(big.Int).Mul(c, last)
			if i >= place {
				rest[i].Sub(rest[i], new(big.Int).Mul(top, b.list[i-place]))
			}
		}
	}
	return short(factor, rest)
}

// poly is the polynomial that l is.
func (l link) poly() ring.Poly {
	list := make(ring.Poly, len(l.list))
	for i, c := range l.list {
		list[i] = exact.Mul(l.factor, rational(c)).Complex()
	}
	return list
}
