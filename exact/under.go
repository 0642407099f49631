package exact

import "math/big"

// Denominator is the least common denominator of these numbers.
func Denominator(list ...Number) *big.Int {
	den := big.NewInt(1)
	for _, x := range list {
		den = multiple(den, x.den)
	}
	return den
}

// multiple is the least common multiple of two numbers above nought.
func multiple(x, y *big.Int) *big.Int {
	return new(big.Int).Mul(x, over(y, Divisor(x, y)))
}

// Raise is x times den, a multiple of x's denominator, in memory of its own.
func (x Number) Raise(den *big.Int) *big.Int {
	return new(big.Int).Mul(x.num, over(den, x.den))
}

// Power is a power of a whole number above nought, of which it tells the root: what is in common with such a power is found by the root, which is far shorter. What its pointers lead to is never written again.
type Power struct {
	root, value *big.Int
	times       int
}

// Once is the first power of x, which is above nought. It may keep x: that is not written again.
func Once(x *big.Int) Power {
	return Power{x, x, 1}
}

// Powers is the powers of x, which is above nought, from x^0 up to x^most.
func Powers(x *big.Int, most int) []Power {
	list := []Power{{x, big.NewInt(1), 0}}
	for i := range most {
		list = append(list, Power{x, new(big.Int).Mul(list[i].value, x), i + 1})
	}
	return list
}

// Value is the power itself. It is not to be written over.
func (p Power) Value() *big.Int {
	return p.value
}

// shared is the greatest common divisor of n and the power.
func (p Power) shared(n *big.Int) *big.Int {
	all, left := big.NewInt(1), p.root
	for range p.times {
		// A prime that the root has more often than n is used up in n with that: from now on what both have is enough.
		left = Divisor(n, left)
		if isOne(left) {
			break
		}
		n = over(n, left)
		all.Mul(all, left)
	}
	return all
}

// Under is num over the product of the powers, in lowest terms. It may keep num: that is not written again.
func Under(num *big.Int, powers ...Power) Number {
	if num.Sign() == 0 {
		return Int(0) // without long steps to it
	}
	den := big.NewInt(1)
	for _, p := range powers {
		d := p.shared(num)
		num = over(num, d)
		den = new(big.Int).Mul(den, over(p.value, d))
	}
	return Number{num, den}
}
