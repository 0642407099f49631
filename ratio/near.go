package ratio

import (
	"math/bits"

	"quaver/api"
	"quaver/entry"
	"quaver/exact"
	"quaver/part"
)

// format is a format of floats: how many bits a number has, the power of two of its least one, and the power that all stay below.
type format struct {
	bits, least, top int
}

// To, To32: the float64 and the float32 nearest to r.
func To(r api.Rat) (float64, api.Errno) {
	return near(r, format{53, -1074, 1024})
}

func To32(r api.Rat) (float32, api.Errno) {
	x, e := near(r, format{24, -149, 128})
	return float32(x), e
}

// near is the number of the format nearest to r: as a float64, which holds the numbers of either format as they are.
func near(r api.Rat, f format) (float64, api.Errno) {
	if e := entry.Rats(r); e != api.OK {
		return 0, e
	}
	m, e := exact.Near(exact.Read(r), f.bits, f.least)
	if e+bits.Len64(m) > f.top {
		return 0, api.ErrOver
	}
	return part.Join(r.Neg, m, e), api.OK
}
