package cplx_test

import (
	"math"
	"math/big"
	"testing"

	"quaver/cplx"
	"quaver/trial"
)

// scaled is Scale by another road.
func scaled(x float64, a complex128) complex128 {
	return complex(trial.Times(x, real(a)), trial.Times(x, imag(a)))
}

// rooted is P3.7 by another road.
func rooted(a complex128) complex128 {
	ar, ai := real(a), imag(a)
	most := max(math.Abs(ar), math.Abs(ai))
	switch {
	case !trial.Finite(ar) || !trial.Finite(ai):
		return complex(nan, nan)
	case ar == 0 && ai == 0:
		return complex(0, ai)
	case most >= 0x1p1000:
		return scaled(0x1p100, rooted(scaled(0x1p-200, a)))
	case most < 0x1p-900:
		return scaled(0x1p-100, rooted(scaled(0x1p200, a)))
	}
	u := trial.Root(trial.Times(trial.Plus(math.Abs(ar), magnitude(a)), 0.5))
	v := trial.Over(ai, trial.Times(2, u))
	if ar >= 0 {
		return complex(u, v)
	}
	return complex(math.Abs(v), math.Copysign(u, ai))
}

func TestSqrt(t *testing.T) {
	const half = 0x1.6a09e667f3bcdp-1 // the root of 1/2, and one step below it: what 1/2 over it is
	const under = 0x1.6a09e667f3bccp-1
	for _, c := range []struct{ a, want complex128 }{
		{-4, complex(0, 2)}, {complex(-4, minus), complex(0, -2)}, {complex(0, 2), complex(1, 1)}, {complex(0, -2), complex(1, -1)}, {complex(minus, 2), complex(1, 1)}, {complex(3, 4), complex(2, 1)}, {complex(3, -4), complex(2, -1)}, {complex(-3, 4), complex(1, 2)}, {complex(-3, -4), complex(1, -2)}, {complex(9, minus), complex(3, minus)}, {9, 3},
		// 1: not finite.
		{complex(infinity, 0), complex(nan, nan)}, {complex(-infinity, 0), complex(nan, nan)}, {complex(0, infinity), complex(nan, nan)}, {complex(1, -infinity), complex(nan, nan)}, {complex(nan, 0), complex(nan, nan)}, {complex(1, nan), complex(nan, nan)}, {complex(nan, infinity), complex(nan, nan)},
		// 2: noughts.
		{complex(0, 0), complex(0, 0)}, {complex(0, minus), complex(0, minus)}, {complex(minus, 0), complex(0, 0)}, {complex(minus, minus), complex(0, minus)},
		// 3: from 2^1000 on: a part that falls below the format counts as nought there, its sign no more.
		{0x1p1000, 0x1p500}, {0x1p1022, 0x1p511}, {-0x1p1022, complex(0, 0x1p511)}, {greatest, 0x1.fffffffffffffp511}, {complex(0, 0x1p1001), complex(0x1p500, 0x1p500)}, {complex(greatest, greatest), complex(0x1.19435caffa9f9p512, 0x1.d203138f6c827p510)},
		{complex(-0x1p-900, 0x1p1000), complex(half*0x1p500, under*0x1p500)}, {complex(-0x1p-900, 0x1p998), complex(under*0x1p499, half*0x1p499)}, {complex(-0x1p-900, -0x1p1000), complex(half*0x1p500, -under*0x1p500)},
		// 4: below 2^-900.
		{0x1p-902, 0x1p-451}, {least, 0x1p-537}, {-least, complex(0, 0x1p-537)}, {complex(0, 8*least), complex(0x1p-536, 0x1p-536)}, {complex(3*least, 4*least), complex(0x1p-536, 0x1p-537)}, {complex(-3*least, -4*least), complex(0x1p-537, -0x1p-536)},
	} {
		trial.Is(t, cplx.Sqrt(c.a), c.want, "P3.7: Sqrt(%x)", c.a)
	}
}

func TestSqrtByAnotherRoad(t *testing.T) {
	list := corners()
	// About the powers of two at which the cases part, with the other part from far below to beside them.
	for _, edge := range []float64{0x1p1000, 0x1p-900} {
		for _, x := range []float64{math.Nextafter(edge, 0), edge, math.Nextafter(edge, infinity), edge / 2, edge * 2, edge * 3} {
			for _, y := range []float64{0, least, 0x1p-1060, 0x1p-874, 0x1p-873, leastNormal, 0x1p-822, 1, x / 3, x * 0x1p-30, x} {
				list = append(list, complex(x, y), complex(-x, y), complex(x, -y), complex(-x, -y), complex(y, x), complex(-y, x), complex(y, -x), complex(-y, -x))
			}
		}
	}
	mix := mixer{6}
	for range 3000 {
		list = append(list, mix.number())
	}
	for _, a := range list {
		got := cplx.Sqrt(a)
		trial.Is(t, got, rooted(a), "P3.7: Sqrt(%x)", a)
		if !cplx.Finite(a) {
			continue
		}
		if !cplx.Finite(got) || math.Signbit(real(got)) || math.Signbit(imag(got)) != math.Signbit(imag(a)) {
			t.Errorf("P3.7: Sqrt(%x) = %x: not finite, on the wrong side, or of the wrong sign", a, got)
		}
	}
}

// squareNear: is r * r within so much of a, as a share of a's size?
func squareNear(r, a complex128, share float64) bool {
	x, y := trial.True(real(r)), trial.True(imag(r))
	re := new(big.Rat).Sub(new(big.Rat).Mul(x, x), new(big.Rat).Mul(y, y))
	im := new(big.Rat).Mul(x, y)
	im.Add(im, im)
	off := new(big.Rat).Add(new(big.Rat).Abs(re.Sub(re, trial.True(real(a)))), new(big.Rat).Abs(im.Sub(im, trial.True(imag(a)))))
	size := new(big.Rat).Add(new(big.Rat).Abs(trial.True(real(a))), new(big.Rat).Abs(trial.True(imag(a))))
	return off.Cmp(size.Mul(size, trial.True(share))) <= 0
}

func TestSqrtIsARoot(t *testing.T) {
	mix := mixer{7}
	list := corners()
	for range 2000 {
		list = append(list, mix.number())
	}
	for _, a := range list {
		if cplx.Finite(a) && !squareNear(cplx.Sqrt(a), a, 0x1p-49) {
			t.Errorf("P3.7: Sqrt(%x) = %x, whose square is another number", a, cplx.Sqrt(a))
		}
	}
}
