package exact

import (
	"math/big"
	"math/bits"
)

// long is how many bits both numbers have where the library's way, whose time grows with the square of the length, takes longer than the way by halves.
const long = 1 << 17

// Divisor is the greatest common divisor of two numbers that are not both nought.
func Divisor(x, y *big.Int) *big.Int {
	// What comes of floats is over powers of two: these are told by shifts, where Euclid's steps take far longer.
	if x.Sign() != 0 && y.Sign() != 0 && (isPower(x) || isPower(y)) {
		return power(min(x.TrailingZeroBits(), y.TrailingZeroBits()))
	}
	for x.BitLen() > long && y.BitLen() > long {
		x, y = closer(x, y)
	}
	return new(big.Int).GCD(nil, nil, x, y)
}

// closer is a pair of the same common divisors, of which the greater one has about three quarters of the bits, and in any case is less.
func closer(x, y *big.Int) (more, less *big.Int) {
	_, x, y = keep().of(x, y)
	n := x.BitLen() / 2
	if _, more, less = halved(down(x, n), down(y, n)).of(x, y); more.Cmp(x) >= 0 {
		more, less = x, y
	}
	if less.Sign() == 0 {
		return more, less
	}
	return less, new(big.Int).Rem(more, less)
}

// trade gives two numbers for two others: x and y become a*x + b*y and c*x + d*y, and whole numbers lead back. So both pairs have the same common divisors, whichever numbers the trade was made for.
type trade struct {
	a, b, c, d *big.Int
}

func keep() trade {
	return trade{big.NewInt(1), new(big.Int), new(big.Int), big.NewInt(1)}
}

// of is what x and y are traded for, without signs, the greater one first, and the trade that tells just these.
func (t trade) of(x, y *big.Int) (just trade, more, less *big.Int) {
	v, w := dot(t.a, x, t.b, y), dot(t.c, x, t.d, y)
	if v.Sign() < 0 {
		v.Neg(v)
		t.a, t.b = new(big.Int).Neg(t.a), new(big.Int).Neg(t.b)
	}
	if w.Sign() < 0 {
		w.Neg(w)
		t.c, t.d = new(big.Int).Neg(t.c), new(big.Int).Neg(t.d)
	}
	if v.Cmp(w) < 0 {
		return trade{t.c, t.d, t.a, t.b}, w, v
	}
	return t, v, w
}

// behind is the trade of first, and then t.
func (t trade) behind(first trade) trade {
	return trade{
		dot(t.a, first.a, t.b, first.c), dot(t.a, first.b, t.b, first.d),
		dot(t.c, first.a, t.d, first.c), dot(t.c, first.b, t.d, first.d),
	}
}

// dot is a*x + b*y.
func dot(a, x, b, y *big.Int) *big.Int {
	sum := new(big.Int).Mul(a, x)
	return sum.Add(sum, new(big.Int).Mul(b, y))
}

// halved is a trade of x, the greater one, and y for numbers of about half the bits. It is made of trades for the upper bits alone, which take Euclid's steps for the whole numbers too, but for the last few.
func halved(x, y *big.Int) trade {
	n := x.BitLen()
	enough := n/2 + 1
	switch {
	case y.BitLen() <= enough:
		return keep()
	case n <= 64:
		return shortHalved(x.Uint64(), y.Uint64())
	}
	t, more, less := halved(down(x, n/2), down(y, n/2)).of(x, y)
	if less.BitLen() <= enough {
		return t
	}
	quotient, rest := new(big.Int).QuoRem(more, less, new(big.Int))
	t = trade{new(big.Int), big.NewInt(1), big.NewInt(1), quotient.Neg(quotient)}.behind(t)
	more, less = less, rest
	left := max(2*enough-more.BitLen(), 0)
	if less.BitLen() <= enough || more.BitLen()-left >= n {
		return t
	}
	return halved(down(more, left), down(less, left)).behind(t)
}

// shortHalved is halved of short numbers. The quotients' products, a to d, stay below x over the last remainder, which is above its root.
func shortHalved(x, y uint64) trade {
	a, b, c, d := int64(1), int64(0), int64(0), int64(1)
	for enough := bits.Len64(x)/2 + 1; bits.Len64(y) > enough; {
		quotient := x / y
		x, y = y, x-quotient*y
		a, b, c, d = c, d, a-int64(quotient)*c, b-int64(quotient)*d
	}
	return trade{big.NewInt(a), big.NewInt(b), big.NewInt(c), big.NewInt(d)}
}

// down is x without its last n bits.
func down(x *big.Int, n int) *big.Int {
	return new(big.Int).Rsh(x, uint(n))
}
