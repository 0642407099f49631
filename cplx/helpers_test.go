package cplx_test

import (
	"math"
	"math/big"
	"testing"

	"quaver/trial"
)

const (
	least       = 0x1p-1074
	leastNormal = 0x1p-1022
	greatest    = math.MaxFloat64
)

var (
	minus    = math.Copysign(0, -1)
	infinity = math.Inf(1)
	nan      = math.NaN()
)

// mixer makes the same numbers each time.
type mixer struct{ trial.Mixer }

// part is a float of an edge, of any bits, of a middle size, or a small whole number.
func (m *mixer) part() float64 {
	list := edges()
	switch m.Below(4) {
	case 0:
		return list[m.Below(len(list))]
	case 1:
		return math.Float64frombits(m.Bits())
	case 2:
		return math.Float64frombits(m.Bits()&^(0x7ff<<52) | uint64(1013+m.Below(20))<<52)
	}
	return float64(m.Below(9) - 4)
}

func (m *mixer) number() complex128 { return complex(m.part(), m.part()) }

// edges: numbers of every class and both signs, those at which the roads of the calls part among them.
func edges() []float64 {
	up := []float64{
		0, least, 3 * least, leastNormal - least, leastNormal, 0x1p-950,
		math.Nextafter(0x1p-900, 0), 0x1p-900, math.Nextafter(0x1p-900, 1), 0x1p-538, 0x1.8p-511,
		0.1, 1 - 0x1p-53, 1, 1 + 0x1p-52, 3, 0x1.8p511, 0x1p512,
		math.Nextafter(0x1p1000, 0), 0x1p1000, math.Nextafter(0x1p1000, infinity), 0x1p1023, greatest, infinity,
	}
	list := []float64{nan, math.Float64frombits(0xfff0000000000001)}
	for _, x := range up {
		list = append(list, x, -x)
	}
	return list
}

// corners: every pair of edges.
func corners() []complex128 {
	var list []complex128
	for _, re := range edges() {
		for _, im := range edges() {
			list = append(list, complex(re, im))
		}
	}
	return list
}

// alike: bit by bit; NaNs are one.
func alike(x, y float64) bool {
	return math.Float64bits(x) == math.Float64bits(y) || math.IsNaN(x) && math.IsNaN(y)
}

func both(a, b complex128) bool {
	return alike(real(a), real(b)) && alike(imag(a), imag(b))
}

// is holds an answer against the one that is wanted, bit by bit.
func is(t *testing.T, got, want complex128, name string, args ...any) {
	t.Helper()
	if !both(got, want) {
		t.Errorf(name+" = (%x, %x), want (%x, %x)", append(args, real(got), imag(got), real(want), imag(want))...)
	}
}

// The steps by another road: worked out with true numbers, and rounded by math/big.

func true64(x float64) *big.Rat { return new(big.Rat).SetFloat64(x) }

// rounded is the float64 nearest to x; a nought is of the sign.
func rounded(x *big.Rat, sign float64) float64 {
	if x.Sign() == 0 {
		return math.Copysign(0, sign)
	}
	f, _ := x.Float64()
	return f
}

func finite(x float64) bool { return !math.IsNaN(x) && !math.IsInf(x, 0) }

func times(x, y float64) float64 {
	sign := math.Copysign(1, x)
	if math.Signbit(y) {
		sign = -sign
	}
	switch {
	case math.IsNaN(x) || math.IsNaN(y) || x == 0 && !finite(y) || !finite(x) && y == 0:
		return nan
	case !finite(x) || !finite(y):
		return math.Copysign(infinity, sign)
	}
	return rounded(new(big.Rat).Mul(true64(x), true64(y)), sign)
}

func plus(x, y float64) float64 {
	switch {
	case math.IsNaN(x) || math.IsNaN(y) || !finite(x) && !finite(y) && x != y:
		return nan
	case !finite(x):
		return x
	case !finite(y):
		return y
	}
	sign := 1.0
	if x == 0 && y == 0 && math.Signbit(x) && math.Signbit(y) {
		sign = -1
	}
	return rounded(new(big.Rat).Add(true64(x), true64(y)), sign)
}

func less(x, y float64) float64 { return plus(x, turned(y)) }

// turned is x with the other sign.
func turned(x float64) float64 {
	return math.Float64frombits(math.Float64bits(x) ^ 1<<63)
}

func over(x, y float64) float64 {
	sign := math.Copysign(1, x)
	if math.Signbit(y) {
		sign = -sign
	}
	switch {
	case math.IsNaN(x) || math.IsNaN(y) || x == 0 && y == 0 || !finite(x) && !finite(y):
		return nan
	case !finite(x) || y == 0:
		return math.Copysign(infinity, sign)
	case !finite(y):
		return math.Copysign(0, sign)
	}
	return rounded(new(big.Rat).Quo(true64(x), true64(y)), sign)
}

// root is the float64 nearest to the root of a number that is not below nought: no float's root lies halfway between two.
func root(x float64) float64 {
	wide := new(big.Float).SetPrec(300).SetFloat64(x)
	f, _ := wide.Sqrt(wide).Float64()
	return f
}
