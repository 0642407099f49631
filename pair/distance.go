package pair

import (
	"math/big"

	"quaver/cplx"
	"quaver/part"
)

// farthest is the place of the number that lies farthest from nought, closest that of the number closest to z. The lists are not empty, and all is finite.
func farthest(list []complex128) int {
	return foremost(list, 0, 1)
}

func closest(list []complex128, z complex128) int {
	return foremost(list, z, -1)
}

// foremost is the place of the number that goes first by its distance to z: the greatest one, where way is 1, the least one, where it is -1.
func foremost(list []complex128, z complex128, way int) int {
	place := 0
	for i, a := range list {
		ahead := way * farther(a, list[place], z)
		if ahead == 0 {
			ahead = cplx.Order(list[place], a)
		}
		if ahead > 0 {
			place = i
		}
	}
	return place
}

// farther is 1, 0 or -1, as a lies farther from z than b, as far as b, or closer.
func farther(a, b, z complex128) int {
	// Rounded steps tell it nearly always, and lists may be long.
	x, y := cplx.Abs2(a-z), cplx.Abs2(b-z)
	switch {
	case clearly(x, y):
		return 1
	case clearly(y, x):
		return -1
	}
	return apart(a, z).Cmp(apart(b, z))
}

// clearly: is x above y for certain, whatever was rounded in Abs2 of a difference? That is below 2^-50 of what comes out, where this is not so little that squares are lost; what is beyond all floats came to infinity, and is above what did not.
func clearly(x, y float64) bool {
	const little = 0x1p-900
	return x > float64(max(y, little)*(1+0x1p-40))
}

// apart is the square of the distance between two numbers, in squares of the step that all floats are multiples of.
func apart(a, b complex128) *big.Int {
	re, im := steps(real(a)), steps(imag(a))
	re.Sub(re, steps(real(b)))
	im.Sub(im, steps(imag(b)))
	re.Mul(re, re)
	return re.Add(re, im.Mul(im, im))
}

// steps is x, which is finite, in steps of 2^-1074: a whole number.
func steps(x float64) *big.Int {
	neg, m, e, _ := part.Split(x)
	n := new(big.Int).SetUint64(m)
	n.Lsh(n, uint(e+1074))
	if neg {
		n.Neg(n)
	}
	return n
}
