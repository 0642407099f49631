package exact

import "math/big"

// Near is the number m * 2^e nearest to x's magnitude, ties to the even m, where m has at most so many bits (below 64) and e is at least least; m is 2^bits, where it is rounded up to that.
func Near(x Number, bits, least int) (m uint64, e int) {
	num, den := new(big.Int).Abs(x.num), x.den
	e = max(log(num, den)-bits+1, least)
	if e < 0 {
		num = num.Lsh(num, uint(-e))
	} else {
		den = new(big.Int).Lsh(den, uint(e))
	}
	whole, rest := new(big.Int).QuoRem(num, den, new(big.Int))
	m = whole.Uint64()
	half := rest.Lsh(rest, 1).Cmp(den)
	if half > 0 || half == 0 && m&1 == 1 {
		m++
	}
	return m, e
}

// log is the power of two that num over den reaches; num may be nought, of which any answer is right.
func log(num, den *big.Int) int {
	n := num.BitLen() - den.BitLen()
	a, b := num, den
	if n < 0 {
		a = new(big.Int).Lsh(num, uint(-n))
	} else {
		b = new(big.Int).Lsh(den, uint(n))
	}
	if a.Cmp(b) < 0 {
		return n - 1
	}
	return n
}
