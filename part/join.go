package part

import "math/bits"

// Join: the float64 nearest to m * 2^e, with that sign.
func Join(neg bool, m uint64, e int) float64 {
	// Far outside the format the powers below could wrap round: m stands below 2^64, and is at least 1.
	switch {
	case m == 0 || e < leastPower-65:
		return put(neg, 0)
	case e > 1023:
		return put(neg, infiniteBits)
	}
	step := max(e+bits.Len64(m)-fractionBits-1, leastPower)
	m = shift(m, step-e)
	// m has its highest bit at fractionBits where step is above the least: adding lets it raise the power, and a carry too.
	b := uint64(step-leastPower)<<fractionBits + m
	return put(neg, min(b, infiniteBits))
}

// shift is m / 2^n, nearest, ties to the even one; n may be below nought, where no bit of m falls out.
func shift(m uint64, n int) uint64 {
	if n <= 0 {
		return m << -n
	}
	if n > 64 {
		return 0
	}
	whole := m >> n
	rest := m << (64 - n)
	const half = 1 << 63
	if rest > half || rest == half && whole&1 == 1 {
		whole++
	}
	return whole
}
