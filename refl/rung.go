package refl

import (
	"math/big"
	"slices"

	"quaver/exact"
	"quaver/ring"
	"quaver/whole"
)

// rung is a polynomial whose last coefficient is 1, by whole numbers: its coefficients times the last of these, which is above nought. It is never written again, once it is made.
type rung []whole.Number

// read is the whole numbers that p's coefficients are, multiplied with the least number that makes them so.
func read(p ring.Poly) []whole.Number {
	list, _ := whole.Common(p...)
	return list
}

// line is the rung of z + k: k's parts over their least common denominator.
func line(k exact.Complex) rung {
	return read(ring.Poly{k, exact.Real(1)})
}

// last is what the coefficients are multiplied with.
func (r rung) last() *big.Int {
	return r[len(r)-1].Re
}

// at is the coefficient of z^i.
func (r rung) at(i int) exact.Complex {
	return exact.Complex{Re: exact.Over(r[i].Re, r.last()), Im: exact.Over(r[i].Im, r.last())}
}

// poly is the polynomial that r is.
func (r rung) poly() ring.Poly {
	list := make(ring.Poly, len(r))
	for i := range list {
		list[i] = r.at(i)
	}
	return list
}

// gap is above nought, if the number of this rung, its coefficient of z^0, is below 1 in magnitude; nought, if that is 1.
func (r rung) gap() *big.Int {
	square := new(big.Int).Mul(r.last(), r.last())
	norm := r[0].Mul(r[0].Conj()).Re
	return square.Sub(square, norm)
}

// under is the rung under r, whose number's magnitude is not 1.
func (r rung) under() rung {
	next := rung(step(r))
	if next.last().Sign() < 0 {
		next = next.times(big.NewInt(-1))
	}
	return next
}

// step is the numbers of a polynomial under the one of these, but for a factor. The last of them is the gap: the squared magnitude of the list's last number less that of the first one.
func step(list []whole.Number) []whole.Number {
	last := len(list) - 1
	turn := list[last].Conj()
	next := make([]whole.Number, last)
	for i := range next {
		next[i] = list[i+1].Mul(turn).Sub(list[0].Mul(list[last-1-i].Conj()))
	}
	return next
}

// over is the rung over r that has the number k.
func (r rung) over(k exact.Complex) rung {
	low := line(k)
	next := slices.Concat(rung{whole.Number{Re: new(big.Int), Im: new(big.Int)}}, r.times(low.last()))
	for i, c := range r {
		place := len(r) - 1 - i
		next[place] = next[place].Add(low[0].Mul(c.Conj()))
	}
	return next
}

func (r rung) times(n *big.Int) rung {
	list := make(rung, len(r))
	for i, c := range r {
		list[i] = c.Times(n)
	}
	return list
}

// shared is the greatest common divisor of n and all of r's numbers.
func (r rung) shared(n *big.Int) *big.Int {
	// From the end: the first number and the last have a divisor in common that the others need not have.
	for _, c := range slices.Backward(r) {
		n = exact.Divisor(exact.Divisor(n, c.Re), c.Im)
	}
	return n
}

// cut is r with its numbers over n; false, if n does not divide them all.
func (r rung) cut(n *big.Int) (rung, bool) {
	list := make(rung, len(r))
	for i, c := range r {
		quotient, rest := c.QuoRem(n)
		if !rest.Nought() {
			return nil, false
		}
		list[i] = quotient
	}
	return list, true
}

// short is r without a common divisor of its numbers.
func (r rung) short() rung {
	list, _ := r.cut(r.shared(r.last()))
	return list
}
