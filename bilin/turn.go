package bilin

import (
	"math/big"

	"quaver/exact"
	"quaver/ring"
	"quaver/whole"
)

// turned is p(z * v), where v is not nought.
func turned(p ring.Poly, v exact.Complex) ring.Poly {
	turn, den := whole.Common(v)
	dens := exact.Powers(den, len(p)-1)
	power := whole.Number{Re: big.NewInt(1), Im: new(big.Int)}
	list := make(ring.Poly, len(p))
	for i, c := range p {
		if i > 0 {
			power = power.Mul(turn[0])
		}
		above, own := whole.Common(c)
		top := above[0].Mul(power)
		list[i] = exact.Complex{
			Re: exact.Under(top.Re, exact.Once(own), dens[i]),
			Im: exact.Under(top.Im, exact.Once(own), dens[i]),
		}
	}
	return list
}

// spread is p(z^m).
func spread(p ring.Poly, m int) ring.Poly {
	var list ring.Poly
	for i, c := range p {
		for len(list) < i*m {
			list = append(list, exact.Real(0))
		}
		list = append(list, c)
	}
	return list
}

// flipped is p(-z).
func flipped(p ring.Poly) ring.Poly {
	list := make(ring.Poly, len(p))
	for i, c := range p {
		if i%2 == 1 {
			c = c.Neg()
		}
		list[i] = c
	}
	return list
}
