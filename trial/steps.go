package trial

import (
	"math"
	"math/big"

	"quaver/api"
)

// The steps of float64 by another road: worked out with true numbers, and rounded by math/big.

// True is the number that x, which is finite, is.
func True(x float64) *big.Rat { return new(big.Rat).SetFloat64(x) }

// Rounded is the float64 nearest to x, or an infinity where there is none; a nought is of the sign.
func Rounded(x *big.Rat, sign float64) float64 {
	if x.Sign() == 0 {
		return math.Copysign(0, sign)
	}
	f, _ := x.Float64()
	return f
}

func Finite(x float64) bool { return !math.IsNaN(x) && !math.IsInf(x, 0) }

// Turned is x with the other sign.
func Turned(x float64) float64 {
	return math.Float64frombits(math.Float64bits(x) ^ 1<<63)
}

// signs is 1 with the sign of a product or a quotient of the two.
func signs(x, y float64) float64 {
	if math.Signbit(x) != math.Signbit(y) {
		return -1
	}
	return 1
}

// Times is x * y, Plus x + y, Less x - y, Over x / y.
func Times(x, y float64) float64 {
	switch {
	case math.IsNaN(x) || math.IsNaN(y) || x == 0 && !Finite(y) || !Finite(x) && y == 0:
		return math.NaN()
	case !Finite(x) || !Finite(y):
		return math.Copysign(math.Inf(1), signs(x, y))
	}
	return Rounded(new(big.Rat).Mul(True(x), True(y)), signs(x, y))
}

func Plus(x, y float64) float64 {
	switch {
	case math.IsNaN(x) || math.IsNaN(y) || !Finite(x) && !Finite(y) && x != y:
		return math.NaN()
	case !Finite(x):
		return x
	case !Finite(y):
		return y
	}
	sign := 1.0
	if x == 0 && y == 0 && math.Signbit(x) && math.Signbit(y) {
		sign = -1
	}
	return Rounded(new(big.Rat).Add(True(x), True(y)), sign)
}

func Less(x, y float64) float64 { return Plus(x, Turned(y)) }

func Over(x, y float64) float64 {
	switch {
	case math.IsNaN(x) || math.IsNaN(y) || x == 0 && y == 0 || !Finite(x) && !Finite(y):
		return math.NaN()
	case !Finite(x) || y == 0:
		return math.Copysign(math.Inf(1), signs(x, y))
	case !Finite(y):
		return math.Copysign(0, signs(x, y))
	}
	return Rounded(new(big.Rat).Quo(True(x), True(y)), signs(x, y))
}

// Root is the float64 nearest to the root of a number that is not below nought: no float's root lies halfway between two.
func Root(x float64) float64 {
	wide := new(big.Float).SetPrec(300).SetFloat64(x)
	f, _ := wide.Sqrt(wide).Float64()
	return f
}

// Both is a + b, Apart a - b, part by part; Product is P3.3.
func Both(a, b complex128) complex128 {
	return complex(Plus(real(a), real(b)), Plus(imag(a), imag(b)))
}

func Apart(a, b complex128) complex128 {
	return complex(Less(real(a), real(b)), Less(imag(a), imag(b)))
}

func Product(a, b complex128) complex128 {
	ar, ai, br, bi := real(a), imag(a), real(b), imag(b)
	return complex(Less(Times(ar, br), Times(ai, bi)), Plus(Times(ar, bi), Times(ai, br)))
}

// NearestDot is the complex128 nearest to the true sum of the true products, by another road, and the error.
func NearestDot(a, b []complex128) (complex128, api.Errno) {
	finite := func(z complex128) bool { return Finite(real(z)) && Finite(imag(z)) }
	whole := Complex{Re: new(big.Rat), Im: new(big.Rat)}
	for i := range a {
		if !finite(a[i]) || !finite(b[i]) {
			return 0, api.ErrNaN
		}
		whole = whole.Add(Exactly(a[i]).Mul(Exactly(b[i])))
	}
	z := whole.Near()
	if !finite(z) {
		return 0, api.ErrOver
	}
	return z, api.OK
}
