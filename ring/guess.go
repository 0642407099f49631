package ring

import (
	"math/big"

	"quaver/exact"
	"quaver/modular"
)

// spare is by how many bits a fraction must be shorter than the modulus allows, so that few wrong ones are tried.
const spare = 32

// guess is a polynomial modulo the product of the primes that it was told by.
type guess struct {
	places  int
	list    []whole
	modulus *big.Int
	primes  int
	next    int // how many primes there are when it is tried again
}

func newGuess(places int) guess {
	g := guess{places: places, list: make([]whole, places), modulus: big.NewInt(1), next: 1}
	for i := range g.list {
		g.list[i] = newWhole()
	}
	return g
}

// take puts what a prime tells to the rest.
func (g *guess) take(f modular.Field, m image) {
	prime := new(big.Int).SetUint64(f.Prime())
	left := new(big.Int).Mod(g.modulus, prime).Uint64()
	inverse := f.Inverse(left)
	lift := func(x *big.Int, residue uint64) {
		now := new(big.Int).Mod(x, prime).Uint64()
		steps := f.Mul(f.Sub(residue, now), inverse)
		x.Add(x, new(big.Int).Mul(g.modulus, new(big.Int).SetUint64(steps)))
	}
	for i, c := range g.list {
		lift(c.re, m.re[i])
		lift(c.im, m.im[i])
	}
	g.modulus = new(big.Int).Mul(g.modulus, prime)
	g.primes++
}

// ripe: is it time to try it again? More primes each time, so that tries stay few.
func (g *guess) ripe() bool {
	if g.primes < g.next {
		return false
	}
	g.next += g.next/2 + 1
	return true
}

// try is the polynomial, with p and q over it, if it divides both.
func (g *guess) try(p, q Poly) (Poly, Poly, Poly) {
	divisor := g.fractions()
	if divisor == nil {
		return nil, nil, nil
	}
	a, rest := QuoRem(p, divisor)
	if len(rest) > 0 {
		return nil, nil, nil
	}
	b, rest := QuoRem(q, divisor)
	if len(rest) > 0 {
		return nil, nil, nil
	}
	return divisor, a, b
}

// fractions is the polynomial of short fractions that the residues are of; nil, if there is none.
func (g *guess) fractions() Poly {
	bound := new(big.Int).Lsh(big.NewInt(1), uint(g.modulus.BitLen()-spare)/2)
	den := big.NewInt(1)
	list := make(Poly, g.places)
	for i, c := range g.list {
		re, told := g.fraction(c.re, den, bound)
		if !told {
			return nil
		}
		im, told := g.fraction(c.im, den, bound)
		if !told {
			return nil
		}
		list[i] = exact.Complex{Re: re, Im: im}
	}
	return list
}

// fraction is the number of parts up to bound that x is the residue of. The coefficients of a polynomial share most of their denominators: den, which is kept up, is what has been met so far.
func (g *guess) fraction(x, den, bound *big.Int) (exact.Number, bool) {
	// Euclid's steps, left half way: num = times * x, but for multiples of the modulus, all along.
	num, times := new(big.Int).Mul(x, den), big.NewInt(1)
	num.Mod(num, g.modulus)
	above, before := new(big.Int).Set(g.modulus), new(big.Int)
	if rest := new(big.Int).Sub(g.modulus, num); rest.Cmp(bound) <= 0 {
		num.Neg(rest)
	}
	for num.Cmp(bound) > 0 {
		steps, rest := new(big.Int).QuoRem(above, num, new(big.Int))
		above, num = num, rest
		before, times = times, before.Sub(before, steps.Mul(steps, times))
	}
	if times.CmpAbs(bound) > 0 {
		return exact.Number{}, false
	}
	if times.Sign() < 0 {
		num.Neg(num)
		times.Neg(times)
	}
	den.Mul(den, times)
	return exact.Over(num, new(big.Int).Set(den)), true
}
