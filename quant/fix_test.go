package quant_test

import (
	"math"
	"math/big"
	"testing"

	"quaver/api"
	"quaver/quant"
	"quaver/trial"
)

// fixes holds Fix of a finite number against math/big.
func fixes(t *testing.T, x float64, bits int) {
	t.Helper()
	want, kept := fixed(x, bits)
	if n, out, e := quant.Fix(x, bits); n != want || out != kept || e != api.OK {
		t.Errorf("P25.1: Fix(%x, %d) = %d, %v, %d, want %d, %v", x, bits, n, out, e, want, kept)
	}
}

func TestFixExamples(t *testing.T) {
	for _, c := range []struct {
		x    float64
		bits int
		n    int64
		out  bool
		e    api.Errno
	}{
		{0.5, 1, 1, false, api.OK}, {0.25, 1, 0, false, api.OK}, {0.75, 1, 2, false, api.OK}, {-0.25, 1, 0, false, api.OK}, {-0.75, 1, -2, false, api.OK},
		{1, 31, high, true, api.OK}, {-1, 31, low, false, api.OK}, {1e300, 1, high, true, api.OK}, {-1e300, 1, low, true, api.OK},
		{0, 31, 0, false, api.OK}, {minus, 1, 0, false, api.OK}, {trial.Least, 31, 0, false, api.OK}, {-trial.Greatest, 31, low, true, api.OK}, {trial.Greatest, 1, high, true, api.OK},
		// What counts is where the rounded number lies.
		{1 - 0x1p-32, 31, high, true, api.OK}, {1 - 0x1.8p-32, 31, high, false, api.OK}, {-1 - 0x1p-32, 31, low, false, api.OK}, {-1 - 0x1.8p-32, 31, low, true, api.OK}, {0x1p30 - 0.25, 1, high, true, api.OK}, {0x1p30 - 0.5, 1, high, false, api.OK},
	} {
		if n, out, e := quant.Fix(c.x, c.bits); n != c.n || out != c.out || e != c.e {
			t.Errorf("P25.1: Fix(%x, %d) = %d, %v, %d, want %d, %v, %d", c.x, c.bits, n, out, e, c.n, c.out, c.e)
		}
	}
}

func TestFixErrors(t *testing.T) {
	for _, x := range []float64{0, 1, -1e300, nan, infinity, -infinity} {
		want := api.OK
		if !trial.Finite(x) {
			want = api.ErrNaN
		}
		for _, bits := range []int{0, 32, -1, 33, 64, math.MaxInt, math.MinInt} {
			if n, out, e := quant.Fix(x, bits); n != 0 || out || e != api.ErrArg {
				t.Errorf("P25.1: Fix(%v, %d) = %d, %v, %d", x, bits, n, out, e)
			}
		}
		for bits := 1; bits <= api.MaxBits; bits++ {
			if n, out, e := quant.Fix(x, bits); e != want || want != api.OK && (n != 0 || out) {
				t.Errorf("P25.1: Fix(%v, %d) = %d, %v, %d", x, bits, n, out, e)
			}
		}
	}
}

func TestFix(t *testing.T) {
	mix := trial.Mixer(501)
	for bits := 1; bits <= api.MaxBits; bits++ {
		for _, x := range trial.Floats() {
			if trial.Finite(x) {
				fixes(t, x, bits)
			}
		}
		// Whole numbers, halves, and what lies next to them; about the ends too.
		for _, n := range []float64{0, 1, 2, 3, 4, 5, 1 << 20, 1<<31 - 2, 1<<31 - 1, 1 << 31, 1<<31 + 1, 1 << 32, 1 << 52, 1 << 53, 1 << 62, 1 << 63, 1 << 64} {
			for _, by := range []float64{0, 0.25, 0.5, 0.75} {
				x := math.Ldexp(n+by, -bits)
				for _, y := range []float64{x, math.Nextafter(x, 0), math.Nextafter(x, infinity)} {
					fixes(t, y, bits)
					fixes(t, -y, bits)
				}
			}
		}
		for range 200 {
			fixes(t, math.Ldexp(mix.Middle(), -mix.Below(70)+40), bits)
			fixes(t, math.Ldexp(float64(int32(mix.Bits())), -mix.Below(35)), bits)
		}
	}
}

func TestFixOfAnyPower(t *testing.T) {
	mix := trial.Mixer(502)
	for power := range 2047 {
		x := math.Float64frombits(uint64(power)<<52 | mix.Bits()>>12)
		for _, bits := range []int{1, 2, 16, 30, 31} {
			fixes(t, x, bits)
			fixes(t, -x, bits)
			fixes(t, math.Float64frombits(uint64(power)<<52), bits)
		}
	}
}

func TestBack(t *testing.T) {
	for _, c := range []struct {
		n    int64
		bits int
		x    float64
	}{
		{3, 1, 1.5}, {math.MaxInt64, 1, 0x1p62}, {math.MinInt64, 1, -0x1p62}, {math.MinInt64, 31, -0x1p32}, {-1, 31, -0x1p-31}, {1, 31, 0x1p-31}, {0, 1, 0}, {0, 31, 0}, {high, 31, 1 - 0x1p-31}, {low, 31, -1},
		// Ties go to the even one, whatever the sign.
		{1<<53 + 1, 1, 0x1p52}, {1<<53 + 3, 1, 0x1p52 + 2}, {-1<<53 - 1, 1, -0x1p52}, {1<<54 + 3, 2, 0x1p52 + 1}, {1<<62 + 1, 31, 0x1p31}, {1<<62 + 1<<9, 31, 0x1p31}, {1<<62 + 1<<9 + 1, 31, 0x1p31 + 0x1p-21},
	} {
		if x, e := quant.Back(c.n, c.bits); !trial.AlikeFloat(x, c.x) || e != api.OK {
			t.Errorf("P25.1: Back(%d, %d) = %x, %d, want %x", c.n, c.bits, x, e, c.x)
		}
	}
	mix := trial.Mixer(503)
	for range 5000 {
		n, bits := number(&mix), 1+mix.Below(31)
		want := trial.Rounded(new(big.Rat).Mul(new(big.Rat).SetInt64(n), trial.Up(-bits)), 1)
		if x, e := quant.Back(n, bits); !trial.AlikeFloat(x, want) || e != api.OK {
			t.Errorf("P25.1: Back(%d, %d) = %x, %d, want %x", n, bits, x, e, want)
		}
		// There and back again.
		if m := kept(n); m >= low {
			x, _ := quant.Back(m, bits)
			if again, out, e := quant.Fix(x, bits); again != m || out || e != api.OK {
				t.Errorf("P25.1: Fix(Back(%d, %d)) = %d, %v, %d", m, bits, again, out, e)
			}
		}
	}
	for _, bits := range []int{0, 32, -1, math.MaxInt, math.MinInt} {
		for _, n := range ends() {
			if x, e := quant.Back(n, bits); !trial.AlikeFloat(x, 0) || e != api.ErrArg {
				t.Errorf("P25.1: Back(%d, %d) = %v, %d", n, bits, x, e)
			}
		}
	}
}
