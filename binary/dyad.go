package binary

import (
	"math/big"
	"math/bits"

	"quaver/api"
	"quaver/exact"
	"quaver/part"
)

// dyad is steps times 2^power. What its pointer leads to is never written again, once it is made.
type dyad struct {
	steps *big.Int
	power int
}

// float is the number that x, which is finite, is.
func float(x float64) dyad {
	neg, m, e, _ := part.Split(x)
	// Noughts at the end would make all longer that comes of it.
	last := bits.TrailingZeros64(m)
	steps := new(big.Int).SetUint64(m >> last)
	if neg {
		steps.Neg(steps)
	}
	return dyad{steps, e + last}
}

// whole is the number x.
func whole(x *big.Int) dyad {
	last := x.TrailingZeroBits()
	return dyad{new(big.Int).Rsh(x, last), int(last)}
}

// nought: is x 0? Its power tells nothing then.
func (x dyad) nought() bool {
	return x.steps.Sign() == 0
}

func (x dyad) neg() dyad {
	return dyad{new(big.Int).Neg(x.steps), x.power}
}

func (x dyad) add(y dyad) dyad {
	switch {
	case x.nought():
		return y
	case y.nought():
		return x
	}
	power := min(x.power, y.power)
	return dyad{new(big.Int).Add(x.in(power), y.in(power)), power}
}

func (x dyad) sub(y dyad) dyad {
	switch {
	case x.nought():
		return y.neg()
	case y.nought():
		return x
	}
	power := min(x.power, y.power)
	return dyad{new(big.Int).Sub(x.in(power), y.in(power)), power}
}

func (x dyad) mul(y dyad) dyad {
	return dyad{new(big.Int).Mul(x.steps, y.steps), x.power + y.power}
}

// in is x in steps of 2^power, which is at most x's.
func (x dyad) in(power int) *big.Int {
	if power == x.power {
		return x.steps
	}
	return new(big.Int).Lsh(x.steps, uint(x.power-power))
}

// over is x / y, where y is not nought.
func (x dyad) over(y dyad) exact.Number {
	if y.steps.Sign() < 0 {
		x, y = x.neg(), y.neg()
	}
	power := min(x.power, y.power)
	return exact.Over(x.in(power), y.in(power))
}

// rat is x in form, in new memory.
func (x dyad) rat() api.Rat {
	return x.over(whole(big.NewInt(1))).Rat()
}
