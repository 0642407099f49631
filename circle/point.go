package circle

import (
	"math/big"

	"quaver/part"
)

// behind is how many bits the parts of a point have behind the point. No part of a turn but 0 and 1 comes nearer than some 2^-90 to where rounding turns, and the few steps to it are off by a few of the last bits.
const behind = 192

// point is a point of the first quarter of the circle, its parts in steps of 2^-behind.
type point struct {
	cos, sin *big.Int
}

func one() *big.Int { return new(big.Int).Lsh(big.NewInt(1), behind) }

// start is the point 1, quarter the point i.
func start() point { return point{one(), new(big.Int)} }

func quarter() point { return point{new(big.Int), one()} }

// half is the point at half of p's angle.
func (p point) half() point {
	cos := one()
	cos.Add(cos, p.cos).Lsh(cos, behind-1).Sqrt(cos)
	sin := new(big.Int).Lsh(p.sin, behind-1)
	return point{cos, sin.Quo(sin, cos)}
}

// times is the point at the sum of both angles, less than a quarter of a turn.
func (p point) times(q point) point {
	cc, ss := new(big.Int).Mul(p.cos, q.cos), new(big.Int).Mul(p.sin, q.sin)
	cs, sc := new(big.Int).Mul(p.cos, q.sin), new(big.Int).Mul(p.sin, q.cos)
	cos, sin := cc.Sub(cc, ss), cs.Add(cs, sc)
	return point{cos.Rsh(cos, behind), sin.Rsh(sin, behind)}
}

// nearest is the complex128 nearest to p, part by part.
func (p point) nearest() complex128 {
	return complex(nearest(p.cos), nearest(p.sin))
}

// nearest is the float64 nearest to x steps of 2^-behind.
func nearest(x *big.Int) float64 {
	cut := max(x.BitLen()-64, 0)
	top := new(big.Int).Rsh(x, uint(cut)).Uint64()
	if x.TrailingZeroBits() < uint(cut) {
		// What is cut off shows as a last bit, so that a number above the midst between two floats is not taken for it.
		top |= 1
	}
	return part.Join(false, top, cut-behind)
}
