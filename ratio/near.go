package ratio

import (
	"quaver/api"
	"quaver/entry"
	"quaver/exact"
)

// To, To32: the float64 and the float32 nearest to r.
func To(r api.Rat) (float64, api.Errno) {
	return near(r, exact.Double())
}

func To32(r api.Rat) (float32, api.Errno) {
	x, e := near(r, exact.Single())
	return float32(x), e
}

// near is the number of the format nearest to r, if r may be handed in.
func near(r api.Rat, f exact.Format) (float64, api.Errno) {
	if e := entry.Rats(r); e != api.OK {
		return 0, e
	}
	x, ok := f.Nearest(exact.Read(r))
	if !ok {
		return 0, api.ErrOver
	}
	return x, api.OK
}
