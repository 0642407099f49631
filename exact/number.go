package exact

import (
	"math/big"

	"quaver/api"
)

// Number is a rational number in lowest terms. What its pointers lead to is never written again, so that numbers may share it.
type Number struct {
	num *big.Int // with the number's sign
	den *big.Int // above nought
}

// Read is the number that r, in form, is.
func Read(r api.Rat) Number {
	return Number{signed(r.Neg, whole(r.Num)), whole(r.Den)}
}

// Make is num over den, which is not nought, in lowest terms.
func Make(neg bool, num, den []uint64) Number {
	return reduce(signed(neg, whole(num)), whole(den))
}

// Over is num over den, which is above nought, in lowest terms. It may keep the two: they are not written again.
func Over(num, den *big.Int) Number {
	return reduce(num, den)
}

// Int is the number n.
func Int(n int64) Number {
	return Number{big.NewInt(n), big.NewInt(1)}
}

// Binary is m * 2^e, with a minus sign where neg.
func Binary(neg bool, m uint64, e int) Number {
	num := signed(neg, new(big.Int).SetUint64(m))
	if e >= 0 {
		return Number{num.Lsh(num, uint(e)), big.NewInt(1)}
	}
	return reduce(num, power(uint(-e)))
}

// Rat is x in form, in new memory.
func (x Number) Rat() api.Rat {
	return api.Rat{Neg: x.num.Sign() < 0, Num: limbs(x.num), Den: limbs(x.den)}
}

// Parts are x's numerator, with its sign, and its denominator. They are not to be written over.
func (x Number) Parts() (num, den *big.Int) {
	return x.num, x.den
}

// Rest are what is left of x's numerator and of its denominator, divided by a prime.
func (x Number) Rest(prime uint64) (num, den uint64) {
	num = rest(x.num, prime)
	if x.Sign() < 0 && num != 0 {
		num = prime - num
	}
	return num, rest(x.den, prime)
}

// Sign is -1, 0 or 1, as x is below nought, nought or above it.
func (x Number) Sign() int {
	return x.num.Sign()
}

// signed turns x's sign, where neg. It writes x over.
func signed(neg bool, x *big.Int) *big.Int {
	if neg {
		x.Neg(x)
	}
	return x
}

// reduce is num over den, which is above nought, in lowest terms.
func reduce(num, den *big.Int) Number {
	d := Divisor(num, den)
	return Number{over(num, d), over(den, d)}
}

// Add is x + y.
func Add(x, y Number) Number {
	return add(x, y, Divisor(x.den, y.den))
}

// Squares is x * x + y * y.
func Squares(x, y Number) Number {
	// A square has no common divisors that its root has not, and two squares those of their roots, squared.
	d := Divisor(x.den, y.den)
	return add(square(x), square(y), new(big.Int).Mul(d, d))
}

func square(x Number) Number {
	return Number{new(big.Int).Mul(x.num, x.num), new(big.Int).Mul(x.den, x.den)}
}

// add is x + y, where d is the greatest common divisor of their denominators.
func add(x, y Number, d *big.Int) Number {
	// Only what divides both denominators can divide the sum's parts: the divisors that are looked for stay small.
	rest := over(x.den, d)
	num := new(big.Int).Mul(x.num, over(y.den, d))
	num.Add(num, new(big.Int).Mul(y.num, rest))
	last := Divisor(num, d)
	return Number{over(num, last), new(big.Int).Mul(rest, over(y.den, last))}
}

// Neg is -x.
func Neg(x Number) Number {
	return Number{new(big.Int).Neg(x.num), x.den}
}

// Sub is x - y.
func Sub(x, y Number) Number {
	return Add(x, Neg(y))
}

// Mul is x * y.
func Mul(x, y Number) Number {
	// Each numerator has divisors in common with the other one's denominator alone.
	c, d := Divisor(x.num, y.den), Divisor(y.num, x.den)
	num := new(big.Int).Mul(over(x.num, c), over(y.num, d))
	den := new(big.Int).Mul(over(x.den, d), over(y.den, c))
	return Number{num, den}
}

// Quo is x / y, where y is not nought.
func Quo(x, y Number) Number {
	num, den := y.den, new(big.Int).Abs(y.num)
	if y.Sign() < 0 {
		num = new(big.Int).Neg(num)
	}
	return Mul(x, Number{num, den})
}

// Cmp is -1, 0 or 1, as x is less than y, equal to it, or greater.
func Cmp(x, y Number) int {
	return new(big.Int).Mul(x.num, y.den).Cmp(new(big.Int).Mul(y.num, x.den))
}

// Floor is the greatest whole number that is at most x.
func Floor(x Number) Number {
	// Div leaves no rest below nought, so it goes down, also below nought.
	return Number{new(big.Int).Div(x.num, x.den), big.NewInt(1)}
}
