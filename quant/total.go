package quant

import (
	"math"
	"math/bits"
)

// total is a sum that may have more than 64 bits: high * 2^64 + low.
type total struct {
	high int64
	low  uint64
}

// plus is t + n.
func (t total) plus(n int64) total {
	low, carry := bits.Add64(t.low, uint64(n), 0)
	return total{t.high + n>>63 + int64(carry), low}
}

// over is t / 2^shift, rounded, where shift is at most MaxBits; of a t beyond 64 bits it is the end of these, which lies outside 32 bits as the true one does.
func (t total) over(shift int) int64 {
	n := int64(t.low)
	switch {
	case t.high == n>>63:
		return rounded(n, shift)
	case t.high < 0:
		return math.MinInt64
	}
	return math.MaxInt64
}

// rounded is n / 2^shift, nearest, ties to the even one; shift is at most 62.
func rounded(n int64, shift int) int64 {
	whole := n >> shift
	rest := n - whole<<shift
	one := int64(1) << shift
	if 2*rest > one || 2*rest == one && whole&1 == 1 {
		whole++
	}
	return whole
}
