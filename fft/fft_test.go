package fft_test

import (
	"math"
	"slices"
	"strconv"
	"testing"

	"quaver/api"
	"quaver/circle"
	"quaver/cplx"
	"quaver/fft"
	"quaver/trial"
)

const (
	greatest = trial.Greatest
	most     = 1 << api.MaxLog
)

var (
	minus    = math.Copysign(0, -1)
	infinity = math.Inf(1)
	nan      = math.NaN()
)

// same holds a list against the one that is wanted, bit by bit.
func same(t *testing.T, got, want []complex128, e api.Errno, name string, args ...any) {
	t.Helper()
	if e != api.OK || !trial.AlikeNumbers(got, want) {
		t.Errorf(name+" = %x, %d, want %x", append(args, got, e, want)...)
	}
}

// steps are what the numbers go through: those of the program, or the ones reckoned by another road.
type steps struct {
	plus, less, times func(a, b complex128) complex128
}

func byTheProgram() steps {
	return steps{func(a, b complex128) complex128 { return a + b }, func(a, b complex128) complex128 { return a - b }, cplx.Mul}
}

func byTrueNumbers() steps {
	return steps{trial.Both, trial.Apart, trial.Product}
}

// halves is the numbers at the even places and those at the odd ones.
func halves(x []complex128) (even, odd []complex128) {
	for i, z := range x {
		if i%2 == 0 {
			even = append(even, z)
		} else {
			odd = append(odd, z)
		}
	}
	return even, odd
}

// transformOf is P9.1 word by word, or P9.2 but for its end.
func transformOf(t *testing.T, by steps, x []complex128, k int, back bool) []complex128 {
	t.Helper()
	if len(x) == 1 {
		return x
	}
	even, odd := halves(x)
	even, odd = transformOf(t, by, even, k-1, back), transformOf(t, by, odd, k-1, back)
	points, e := circle.Turns(k)
	if e != api.OK {
		t.Fatalf("Turns(%d): %d", k, e)
	}
	y := make([]complex128, len(x))
	for j := range even {
		w := points[j]
		if !back {
			w = complex(real(w), trial.Turned(imag(w)))
		}
		p := by.times(w, odd[j])
		y[j], y[j+len(x)/2] = by.plus(even[j], p), by.less(even[j], p)
	}
	return y
}

// scaledOf is the end of P9.2.
func scaledOf(x []complex128) []complex128 {
	var list []complex128
	for _, z := range x {
		over := math.Ldexp(1, -int(math.Log2(float64(len(x)))))
		list = append(list, complex(trial.Times(over, real(z)), trial.Times(over, imag(z))))
	}
	return list
}

func look(t *testing.T, by steps, x []complex128, k int) {
	t.Helper()
	y, e := fft.Forward(x)
	same(t, y, transformOf(t, by, x, k, false), e, "P9.1: Forward(%x)", x)
	y, e = fft.Inverse(x)
	same(t, y, scaledOf(transformOf(t, by, x, k, true)), e, "P9.2: Inverse(%x)", x)
}

func TestExamples(t *testing.T) {
	for _, c := range []struct{ x, y []complex128 }{
		{[]complex128{5}, []complex128{5}}, {[]complex128{complex(-1, 2)}, []complex128{complex(-1, 2)}},
		{[]complex128{1, 2}, []complex128{3, -1}}, {[]complex128{complex(0, 1), 1}, []complex128{complex(1, 1), complex(-1, 1)}},
		{[]complex128{1, 0, 0, 0}, []complex128{1, 1, 1, 1}}, {[]complex128{0, 1, 0, 0}, []complex128{1, complex(0, -1), -1, complex(0, 1)}}, {[]complex128{0, 0, 0, 1}, []complex128{1, complex(0, 1), -1, complex(0, -1)}},
		{[]complex128{1, 2, 3, 4}, []complex128{10, complex(-2, 2), -2, complex(-2, -2)}},
	} {
		if y, e := fft.Forward(c.x); !slices.Equal(y, c.y) || e != api.OK {
			t.Errorf("P9.1: Forward(%g) = %g, %d, want %g", c.x, y, e, c.y)
		}
		if x, e := fft.Inverse(c.y); !slices.Equal(x, c.x) || e != api.OK {
			t.Errorf("P9.2: Inverse(%g) = %g, %d, want %g", c.y, x, e, c.x)
		}
	}
}

func TestFewNumbers(t *testing.T) {
	z := complex(minus, minus)
	for _, c := range []struct{ x, forward, inverse []complex128 }{
		{[]complex128{z}, []complex128{z}, []complex128{z}},
		{[]complex128{complex(infinity, nan)}, []complex128{complex(infinity, nan)}, []complex128{complex(infinity, nan)}},
		{[]complex128{complex(trial.Least, -greatest)}, []complex128{complex(trial.Least, -greatest)}, []complex128{complex(trial.Least, -greatest)}},
		// W is 1 - 0i forward, 1 + 0i back, and noughts' signs go the way of the product: -0 * 1 - -0 * -0 is -0, -0 * -0 + -0 * 1 is +0; back they are the other way round.
		{[]complex128{z, z}, []complex128{complex(minus, 0), complex(0, minus)}, []complex128{complex(0, minus), complex(minus, 0)}},
		{[]complex128{0, 0}, []complex128{0, 0}, []complex128{0, 0}},
		{[]complex128{z, 0}, []complex128{0, z}, []complex128{0, z}},
		{[]complex128{complex(1, 2), complex(infinity, 0)}, []complex128{complex(infinity, nan), complex(-infinity, nan)}, []complex128{complex(infinity, nan), complex(-infinity, nan)}},
		{[]complex128{complex(infinity, 0), 0}, []complex128{complex(infinity, 0), complex(infinity, 0)}, []complex128{complex(infinity, 0), complex(infinity, 0)}},
		{[]complex128{complex(0, nan), 1}, []complex128{complex(1, nan), complex(-1, nan)}, []complex128{complex(0.5, nan), complex(-0.5, nan)}},
		// What goes beyond the greatest number on its way stays there, though the mean does not lie beyond.
		{[]complex128{greatest, greatest}, []complex128{complex(infinity, 0), 0}, []complex128{complex(infinity, 0), 0}},
		{[]complex128{trial.Least, 0}, []complex128{trial.Least, trial.Least}, []complex128{0, 0}},
		{[]complex128{3 * trial.Least, 0}, []complex128{3 * trial.Least, 3 * trial.Least}, []complex128{2 * trial.Least, 2 * trial.Least}},
		{[]complex128{-trial.Least, 0}, []complex128{-trial.Least, -trial.Least}, []complex128{complex(minus, 0), complex(minus, 0)}},
	} {
		y, e := fft.Forward(c.x)
		same(t, y, c.forward, e, "P9.1: Forward(%x)", c.x)
		y, e = fft.Inverse(c.x)
		same(t, y, c.inverse, e, "P9.2: Inverse(%x)", c.x)
	}
}

func TestStepByStep(t *testing.T) {
	mix := trial.Mixer(1)
	for k := range 7 {
		for _, rule := range []func() float64{mix.Float, mix.Middle, func() float64 { return math.Copysign(0, float64(mix.Below(2))-0.5) }} {
			for range 160 >> k {
				look(t, byTrueNumbers(), mix.Numbers(1<<k, rule), k)
			}
		}
	}
	for _, x := range trial.Floats() {
		for _, y := range trial.Floats() {
			look(t, byTrueNumbers(), []complex128{complex(x, y), complex(y, x)}, 1)
			list := mix.Numbers(8, mix.Middle)
			list[mix.Below(8)] = complex(x, y)
			look(t, byTheProgram(), list, 3)
		}
	}
}

func TestLongLists(t *testing.T) {
	mix := trial.Mixer(2)
	for k := 7; k <= api.MaxLog; k++ {
		look(t, byTheProgram(), mix.Numbers(1<<k, mix.Middle), k)
		x := mix.Numbers(1<<k, mix.Middle)
		x[mix.Below(len(x))] = complex(infinity, 0)
		look(t, byTheProgram(), x, k)
	}
}

func TestReverse(t *testing.T) {
	for _, c := range []struct {
		j, k, want int
		e          api.Errno
	}{
		{1, 3, 4, api.OK}, {6, 3, 3, api.OK}, {0, 0, 0, api.OK}, {1, 1, 1, api.OK}, {1, 12, 2048, api.OK}, {4095, 12, 4095, api.OK}, {0, 12, 0, api.OK},
		{1, 0, 0, api.ErrArg}, {8, 3, 0, api.ErrArg}, {0, 13, 0, api.ErrArg}, {4096, 12, 0, api.ErrArg}, {-1, 3, 0, api.ErrArg}, {-1, 0, 0, api.ErrArg}, {0, -1, 0, api.ErrArg}, {-1, -1, 0, api.ErrArg}, {-1, 12, 0, api.ErrArg}, {1, 16, 0, api.ErrArg},
		{math.MinInt, 3, 0, api.ErrArg}, {math.MaxInt, 12, 0, api.ErrArg}, {0, math.MinInt, 0, api.ErrArg}, {0, math.MaxInt, 0, api.ErrArg}, {math.MaxInt, math.MaxInt, 0, api.ErrArg},
	} {
		if r, e := fft.Reverse(c.j, c.k); r != c.want || e != c.e {
			t.Errorf("P9.3: Reverse(%d, %d) = %d, %d, want %d, %d", c.j, c.k, r, e, c.want, c.e)
		}
	}
	for k := 1; k <= api.MaxLog; k++ {
		for j := range 1 << k {
			digits := []byte(strconv.FormatInt(int64(1<<k+j), 2)[1:])
			slices.Reverse(digits)
			want, _ := strconv.ParseInt(string(digits), 2, 0)
			if r, e := fft.Reverse(j, k); r != int(want) || e != api.OK {
				t.Errorf("P9.3: Reverse(%d, %d) = %d, %d, want %d", j, k, r, e, want)
			}
		}
	}
}

func TestWhatFollows(t *testing.T) {
	mix := trial.Mixer(3)
	for k := range api.MaxLog + 1 {
		for _, c := range []complex128{0, 1, complex(0, -3), complex(minus, minus), complex(greatest, -greatest), complex(-trial.Least, trial.Least), complex(mix.Middle(), mix.Middle())} {
			x := make([]complex128, 1<<k)
			x[0] = c
			y, e := fft.Forward(x)
			if len(y) != len(x) || e != api.OK || slices.ContainsFunc(y, func(z complex128) bool { return z != c }) {
				t.Errorf("P9.6: Forward of %g and %d noughts is %g.., %d", c, len(x)-1, y[:min(len(y), 4)], e)
			}
		}
	}
	for range 300 {
		x := mix.Numbers(1<<mix.Below(3), func() float64 { return float64(mix.Below(1<<20) - 1<<19) })
		y, e1 := fft.Forward(x)
		back, e2 := fft.Inverse(y)
		if !slices.Equal(back, x) || e1 != api.OK || e2 != api.OK {
			t.Errorf("P9.6: Inverse of Forward of %g is %g, %d, %d", x, back, e1, e2)
		}
	}
}
