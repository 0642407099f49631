package cplx_test

import (
	"math"
	"testing"

	"quaver/cplx"
	"quaver/trial"
)

func TestConjTurnScale(t *testing.T) {
	for _, a := range corners() {
		ar, ai := real(a), imag(a)
		trial.Is(t, cplx.Conj(a), complex(ar, trial.Turned(ai)), "P3.2: Conj(%x)", a)
		trial.Is(t, cplx.Turn(a), complex(trial.Turned(ai), ar), "P3.2: Turn(%x)", a)
	}
	trial.Is(t, cplx.Conj(complex(infinity, 0)), complex(infinity, minus), "P3.2: Conj(inf, 0)")
	trial.Is(t, cplx.Conj(complex(minus, -infinity)), complex(minus, infinity), "P3.2: Conj(-0, -inf)")
	trial.Is(t, cplx.Turn(1), complex(minus, 1), "P3.2: Turn(1)")
	trial.Is(t, cplx.Turn(complex(minus, minus)), complex(0, minus), "P3.2: Turn(-0, -0)")
	trial.Is(t, cplx.Turn(complex(2, infinity)), complex(-infinity, 2), "P3.2: Turn(2, inf)")

	for _, c := range []struct {
		x       float64
		a, want complex128
	}{
		{2, complex(3, -5), complex(6, -10)}, {-2, complex(1, 0), complex(-2, minus)}, {0, complex(-1, 1), complex(minus, 0)},
		{0, complex(infinity, 7), complex(nan, 0)}, {infinity, complex(0, -1), complex(nan, -infinity)}, {nan, complex(1, 0), complex(nan, nan)}, {1, complex(nan, 2), complex(nan, 2)},
		{2, complex(greatest, -greatest), complex(infinity, -infinity)}, {0.5, complex(least, 3*least), complex(0, 2*least)}, {-0.5, complex(least, -3*least), complex(minus, 2*least)}, {0.1, complex(3, 0.1), complex(0.30000000000000004, 0.010000000000000002)},
	} {
		trial.Is(t, cplx.Scale(c.x, c.a), c.want, "P3.2: Scale(%x, %x)", c.x, c.a)
	}
	mix := mixer{1}
	for range 5000 {
		x, a := mix.part(), mix.number()
		trial.Is(t, cplx.Scale(x, a), complex(trial.Times(x, real(a)), trial.Times(x, imag(a))), "P3.2: Scale(%x, %x)", x, a)
	}
}

func TestMul(t *testing.T) {
	e := 1 + 0x1p-52
	for _, c := range []struct{ a, b, want complex128 }{
		{complex(1, 2), complex(3, 4), complex(-5, 10)}, {complex(1, 2), complex(3, -1), complex(5, 5)},
		{complex(0, 1), complex(1, 0), complex(0, 1)}, {complex(0, 1), complex(0, 1), complex(-1, 0)},
		{complex(infinity, 0), complex(1, 0), complex(infinity, nan)}, {complex(infinity, 0), complex(0, 1), complex(nan, infinity)},
		// Nothing is mended.
		{complex(infinity, infinity), complex(1, 1), complex(nan, infinity)}, {complex(infinity, nan), complex(2, 2), complex(nan, nan)}, {complex(nan, 0), complex(0, 1), complex(nan, nan)},
		{complex(greatest, greatest), complex(2, 2), complex(nan, infinity)}, {complex(greatest, 0), complex(2, 0), complex(infinity, 0)},
		// Rounded by itself a product is its like's equal; fused with the difference it is not.
		{complex(e, e), complex(e, e), complex(0, 2+0x1p-50)}, {complex(e, e), complex(-e, e), complex(-2-0x1p-50, 0)}, {complex(0.1, 0.1), complex(0.1, -0.1), complex(2*0.010000000000000002, 0)},
		{complex(minus, 0), complex(1, 0), complex(minus, 0)}, {complex(0, minus), complex(1, 0), complex(0, 0)}, {complex(0, minus), complex(1, minus), complex(0, minus)}, {complex(minus, minus), complex(0, 0), complex(0, minus)},
		{complex(least, 0), complex(0.5, 0), complex(0, 0)}, {complex(least, least), complex(0.5, 1), complex(-least, least)}, {complex(0x1p-540, 0), complex(0x1p-534, 0), complex(least, 0)},
	} {
		trial.Is(t, cplx.Mul(c.a, c.b), c.want, "P3.3: Mul(%x, %x)", c.a, c.b)
	}
	mix := mixer{2}
	for range 10000 {
		a, b := mix.number(), mix.number()
		trial.Is(t, cplx.Mul(a, b), trial.Product(a, b), "P3.3: Mul(%x, %x)", a, b)
	}
}

// quotient is P3.4 by another road.
func quotient(a, b complex128) complex128 {
	ar, ai, br, bi := real(a), imag(a), real(b), imag(b)
	if math.Abs(br) >= math.Abs(bi) {
		t := trial.Over(bi, br)
		d := trial.Plus(br, trial.Times(bi, t))
		return complex(trial.Over(trial.Plus(ar, trial.Times(ai, t)), d), trial.Over(trial.Less(ai, trial.Times(ar, t)), d))
	}
	t := trial.Over(br, bi)
	d := trial.Plus(bi, trial.Times(br, t))
	return complex(trial.Over(trial.Plus(trial.Times(ar, t), ai), d), trial.Over(trial.Less(trial.Times(ai, t), ar), d))
}

func TestDiv(t *testing.T) {
	for _, c := range []struct{ a, b, want complex128 }{
		{complex(1, 2), complex(3, -1), complex(math.Float64frombits(0x3fb999999999999a), math.Float64frombits(0x3fe6666666666667))},
		{complex(4, 2), complex(2, 0), complex(2, 1)}, {1, complex(0, 2), complex(0, -0.5)}, {1, complex(0, 1), complex(0, -1)}, {complex(1, 0), complex(1, minus), complex(1, 0)},
		// Where the parts of b are of one size the first road is taken: the other one answers -0 here.
		{complex(1, 1), complex(1, -1), complex(0, 1)}, {complex(1, 1), complex(-1, 1), complex(minus, -1)}, {complex(2, 2), complex(1, 1), complex(2, 0)}, {complex(1, 1), complex(3, -3), complex(0, 2.0/6)},
		{complex(1, 1), complex(infinity, 1), complex(0, 0)}, {complex(1, 1), complex(1, infinity), complex(0, minus)}, {complex(1, 1), complex(infinity, infinity), complex(nan, nan)}, {complex(1, 1), complex(infinity, 0), complex(0, 0)}, {complex(-1, 1), complex(0, -infinity), complex(minus, minus)},
		{complex(infinity, 0), complex(1, 0), complex(infinity, nan)}, {complex(infinity, 1), complex(2, 1), complex(infinity, -infinity)}, {complex(nan, 1), complex(2, 0), complex(nan, nan)}, {complex(1, 1), complex(nan, 1), complex(nan, nan)}, {complex(1, 1), complex(1, nan), complex(nan, nan)}, {complex(infinity, 1), complex(infinity, nan), complex(nan, nan)},
		{complex(greatest, greatest), complex(greatest, greatest), complex(nan, 0)}, {complex(greatest, 0), complex(0.5, 0), complex(infinity, 0)}, {complex(1, 0), complex(greatest, greatest), complex(0, minus)},
		{complex(1, 0), complex(least, 0), complex(infinity, 0)}, {complex(least, 0), complex(least, 0), complex(1, 0)}, {complex(least, least), complex(2, 0), complex(0, 0)}, {complex(0, 3*least), complex(2, 0), complex(0, 2*least)},
	} {
		trial.Is(t, cplx.Div(c.a, c.b), c.want, "P3.4: Div(%x, %x)", c.a, c.b)
	}
	for _, a := range corners() {
		for _, b := range []complex128{complex(0, 0), complex(0, minus), complex(minus, 0), complex(minus, minus)} {
			trial.Is(t, cplx.Div(a, b), complex(nan, nan), "P3.4: Div(%x, %x)", a, b)
		}
	}
	for _, a := range []complex128{complex(1, -3), complex(infinity, 2), complex(minus, 0.1)} {
		for _, b := range corners() {
			trial.Is(t, cplx.Div(a, b), quotient(a, b), "P3.4: Div(%x, %x)", a, b)
		}
	}
	mix := mixer{3}
	for range 6000 {
		a, b := mix.number(), mix.number()
		trial.Is(t, cplx.Div(a, b), quotient(a, b), "P3.4: Div(%x, %x)", a, b)
	}
}

func TestAbs2(t *testing.T) {
	for _, c := range []struct {
		a    complex128
		want float64
	}{
		{complex(3, 4), 25}, {complex(-3, -4), 25}, {complex(minus, minus), 0}, {complex(infinity, 1), infinity}, {complex(-infinity, nan), nan}, {complex(nan, 0), nan}, {complex(0, nan), nan},
		{complex(0x1p512, 0), infinity}, {complex(0x1p511, 0x1p511), 0x1p1023}, {complex(0, 0x1p-538), 0}, {complex(0x1p-537, 0), least}, {complex(0.1, 0), 0.010000000000000002},
		// Fused with the sum either square makes these 0.09999999999999999 and 0.39999999999999997.
		{complex(0.1, 0.3), 0.1}, {complex(0.6, -0.2), 0.4},
	} {
		if x := cplx.Abs2(c.a); !trial.AlikeFloat(x, c.want) {
			t.Errorf("P3.5: Abs2(%x) = %x, want %x", c.a, x, c.want)
		}
	}
	list := corners()
	mix := mixer{4}
	for range 4000 {
		list = append(list, mix.number())
	}
	for _, a := range list {
		want := trial.Plus(trial.Times(real(a), real(a)), trial.Times(imag(a), imag(a)))
		if x := cplx.Abs2(a); !trial.AlikeFloat(x, want) {
			t.Errorf("P3.5: Abs2(%x) = %x, want %x", a, x, want)
		}
	}
}

// magnitude is P3.6 by another road.
func magnitude(a complex128) float64 {
	m, n := math.Abs(real(a)), math.Abs(imag(a))
	if m == infinity || n == infinity {
		return infinity
	}
	if math.IsNaN(m) || math.IsNaN(n) {
		return nan
	}
	if n > m {
		m, n = n, m
	}
	if m == 0 {
		return 0
	}
	t := trial.Over(n, m)
	return trial.Times(m, trial.Root(trial.Plus(1, trial.Times(t, t))))
}

func TestAbs(t *testing.T) {
	for _, c := range []struct {
		a    complex128
		want float64
	}{
		{complex(3, 4), 5}, {complex(3, -4), 5}, {complex(-5, 12), 13}, {complex(12, 5), 13}, {complex(1, 1), math.Float64frombits(0x3ff6a09e667f3bcd)},
		{complex(0, 0), 0}, {complex(minus, 0), 0}, {complex(0, minus), 0}, {complex(minus, minus), 0},
		{complex(nan, -infinity), infinity}, {complex(-infinity, nan), infinity}, {complex(infinity, 0), infinity}, {complex(infinity, -infinity), infinity}, {complex(0, nan), nan}, {complex(nan, 1), nan}, {complex(nan, nan), nan},
		{complex(-least, 0), least}, {complex(least, least), least}, {complex(0, -2), 2}, {complex(greatest, 0), greatest}, {complex(minus, -greatest), greatest}, {complex(greatest, greatest), infinity}, {complex(0x1p1023, 0x1p1022), 0x1.1e3779b97f4a8p1023}, {complex(3*least, 4*least), 5 * least},
	} {
		if x := cplx.Abs(c.a); !trial.AlikeFloat(x, c.want) {
			t.Errorf("P3.6: Abs(%x) = %x, want %x", c.a, x, c.want)
		}
	}
	list := corners()
	mix := mixer{5}
	for range 4000 {
		list = append(list, mix.number())
	}
	for _, a := range list {
		if x, want := cplx.Abs(a), magnitude(a); !trial.AlikeFloat(x, want) {
			t.Errorf("P3.6: Abs(%x) = %x, want %x", a, x, want)
		}
	}
}
