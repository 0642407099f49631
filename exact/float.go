package exact

import (
	"math/bits"

	"quaver/part"
)

// Format is a format of floats: how many bits a number has, the power of two of its least one, and the power that all stay below.
type Format struct {
	Bits, Least, Top int
}

// Double is the format of float64, Single that of float32.
func Double() Format { return Format{53, -1074, 1024} }

func Single() Format { return Format{24, -149, 128} }

// Nearest is the number of the format nearest to x, as a float64, which holds the numbers of either format as they are; false, where there is none.
func (f Format) Nearest(x Number) (float64, bool) {
	m, e := Near(x, f.Bits, f.Least)
	if e+bits.Len64(m) > f.Top {
		return 0, false
	}
	return part.Join(x.Sign() < 0, m, e), true
}

// Nearest is the complex128 nearest to a, part by part; false, where there is none.
func (a Complex) Nearest() (complex128, bool) {
	re, ok := Double().Nearest(a.Re)
	im, both := Double().Nearest(a.Im)
	if !ok || !both {
		return 0, false
	}
	return complex(re, im), true
}
