package text

import (
	"math"
	"math/bits"
	"strconv"

	"quaver/part"
)

// float writes a float behind b.
func float(b []byte, x float64) []byte {
	if math.IsNaN(x) {
		return append(b, "nan"...)
	}
	if math.Signbit(x) {
		b = append(b, '-')
	}
	if math.IsInf(x, 0) {
		return append(b, "inf"...)
	}
	_, m, e, _ := part.Split(x)
	m, e = odd(m, e)
	b = strconv.AppendUint(append(b, "0x"...), m, 16)
	return strconv.AppendInt(append(b, 'p'), int64(e), 10)
}

// odd is m * 2^e with the m that is odd; nought has the e 0.
func odd(m uint64, e int) (uint64, int) {
	if m == 0 {
		return 0, 0
	}
	low := bits.TrailingZeros64(m)
	return m >> low, e + low
}

// number writes a number behind b.
func number(b []byte, a complex128) []byte {
	b = float(append(b, '('), real(a))
	b = float(append(b, ','), imag(a))
	return append(b, ')')
}

// list writes numbers behind b, with a blank in front of each.
func list(b []byte, list []complex128) []byte {
	for _, a := range list {
		b = number(append(b, ' '), a)
	}
	return b
}
