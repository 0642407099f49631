package exact

import "math/big"

// Near is the number m * 2^e nearest to x's magnitude, ties to the even m, where m has at most so many bits (below 64) and e is at least least; m is 2^bits, where it is rounded up to that.
func Near(x Number, bits, least int) (m uint64, e int) {
	num, den := new(big.Int).Abs(x.num), x.den
	e = max(log(num, den)-bits+1, least)
	if e < 0 {
		num = num.Lsh(num, uint(-e))
	} else {
		den = new(big.Int).Lsh(den, uint(e))
	}
	whole, rest := new(big.Int).QuoRem(num, den, new(big.Int))
	m = whole.Uint64()
	half := rest.Lsh(rest, 1).Cmp(den)
	if half > 0 || half == 0 && m&1 == 1 {
		m++
	}
	return m, e
}

// log is the power of two that num over den reaches; num may be nought, of which any answer is right.
func log(num, den *big.Int) int {
	n := num.BitLen() - den.BitLen()
	a, b := num, den
	if n < 0 {
		a = new(big.Int).Lsh(num, uint(-n))
	} else {
		b = new(big.Int).Lsh(den, uint(n))
	}
	if a.Cmp(b) < 0 {
		return n - 1
	}
	return n
}

// Reach is a power of two that x's magnitude lies below; a fourth of it does not, if x is not nought.
func (x Number) Reach() int {
	return x.num.BitLen() - x.den.BitLen() + 1
}

// Whole is the greatest whole number that is at most x * 2^n.
func (x Number) Whole(n int) *big.Int {
	if isPower(x.den) {
		return shift(x.num, n+1-x.den.BitLen())
	}
	num, den := x.num, x.den
	if n < 0 {
		den = shift(den, -n)
	} else {
		num = shift(num, n)
	}
	return new(big.Int).Div(num, den)
}

// shift is the greatest whole number that is at most x * 2^n.
func shift(x *big.Int, n int) *big.Int {
	if n < 0 {
		return new(big.Int).Rsh(x, uint(-n))
	}
	return new(big.Int).Lsh(x, uint(n))
}
