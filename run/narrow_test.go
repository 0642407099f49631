package run_test

import (
	"math"
	"testing"

	"quaver/api"
	"quaver/run"
	"quaver/trial"
)

const (
	least32    = 0x1p-149
	greatest32 = math.MaxFloat32
)

var (
	minus32    = float32(minus)
	infinity32 = float32(infinity)
	nan32      = float32(nan)
)

// narrowStep is P16.5 by another road: every sum, difference and product of float32 is worked out in float64, which loses nothing that is seen when it is rounded to float32.
func narrowStep(s api.Section, st [2]complex64, x complex64) (complex64, [2]complex64) {
	both := func(a, b complex64) complex64 {
		return complex(float32(float64(real(a))+float64(real(b))), float32(float64(imag(a))+float64(imag(b))))
	}
	apart := func(a, b complex64) complex64 {
		return complex(float32(float64(real(a))-float64(real(b))), float32(float64(imag(a))-float64(imag(b))))
	}
	times := func(x, y float32) float32 { return float32(float64(x) * float64(y)) }
	product := func(c complex128, b complex64) complex64 {
		ar, ai, br, bi := float32(real(c)), float32(imag(c)), real(b), imag(b)
		first := complex(times(ar, br), times(ar, bi))
		return complex(real(apart(first, complex(times(ai, bi), 0))), imag(both(first, complex(0, times(ai, br)))))
	}
	y := both(product(s.B0, x), st[0])
	return y, [2]complex64{apart(both(product(s.B1, x), st[1]), product(s.A1, y)), apart(product(s.B2, x), product(s.A2, y))}
}

// wide is numbers of complex64 as they are.
func wide(numbers ...complex64) []complex128 {
	var all []complex128
	for _, a := range numbers {
		all = append(all, complex128(a))
	}
	return all
}

func narrowIs(t *testing.T, s api.Section, st [2]complex64, x, want complex64, next [2]complex64) {
	t.Helper()
	y, after := run.Narrow(s, st, x)
	are(t, wide(y, after[0], after[1]), wide(want, next[0], next[1]), "P16.5: Narrow(%x, %x, %x)", s, st, x)
}

func TestNarrow(t *testing.T) {
	high, none := complex(infinity32, 0), complex(nan32, nan32)
	third := float32(1.0 / 3)
	for _, c := range []struct {
		s    api.Section
		st   [2]complex64
		x, y complex64
		next [2]complex64
	}{
		{api.Section{B0: 1, A1: -0.5}, [2]complex64{}, 1, 1, [2]complex64{0.5, 0}},
		{api.Section{B0: 1, B1: 2, B2: 3, A1: 4, A2: 5}, [2]complex64{10, 20}, 2, 12, [2]complex64{-24, -54}},
		{api.Section{B0: 1i}, [2]complex64{}, 1i, -1, [2]complex64{}},
		{api.Section{B0: 1.0 / 3}, [2]complex64{}, 1, complex(third, 0), [2]complex64{}},
		{api.Section{B0: 1}, [2]complex64{complex(minus32, minus32), 0}, complex(minus32, minus32), complex(0, minus32), [2]complex64{0, complex(0, minus32)}},
		// The coefficients are narrowed first: beyond the greatest number of float32, and half a step below that.
		{api.Section{B0: 1e39}, [2]complex64{}, 1e-30, complex(infinity32, nan32), [2]complex64{none, none}},
		{api.Section{B0: 1, B2: -1e39}, [2]complex64{}, 1, 1, [2]complex64{0, complex(-infinity32, nan32)}},
		{api.Section{B0: 0x1.fffffefffffffp127}, [2]complex64{}, 1, greatest32, [2]complex64{}},
		{api.Section{B0: 0x1.ffffffp127}, [2]complex64{}, 0.5, complex(infinity32, nan32), [2]complex64{none, none}},
		// Subnormal in float32, halfway between two, and below all of them.
		{api.Section{B0: 0x1.8p-149, B1: 0x1p-150, B2: complex(0, -1e-50)}, [2]complex64{}, 0x1p100, 2 * least32 * 0x1p100, [2]complex64{}},
		{api.Section{B0: 1, B1: 0x1.4p-148, A1: complex(-least32, 0)}, [2]complex64{}, 1, 1, [2]complex64{3 * least32, 0}},
		{api.Section{B0: 1e-50}, [2]complex64{}, 0x1p127, 0, [2]complex64{}},
		{api.Section{B0: 0.5, A2: 1}, [2]complex64{}, complex(3*least32, 0), 2 * least32, [2]complex64{0, -2 * least32}},
		{api.Section{B0: complex(0, nan)}, [2]complex64{}, 1, none, [2]complex64{none, none}},
		{api.Section{B0: 1}, [2]complex64{high, 0}, 0, high, [2]complex64{none, none}},
		{api.Section{B0: 1, B1: 1}, [2]complex64{0, complex(0, -infinity32)}, 1, 1, [2]complex64{complex(1, -infinity32), 0}},
		// The order of the sums, and each step rounded to float32.
		{api.Section{B0: 1, B1: 1, A1: 0x1p30}, [2]complex64{0, 0x1p30}, 1, 1, [2]complex64{}},
		{api.Section{B0: 1, B1: 1, A1: 1}, [2]complex64{0, complex(0x1p-30, 3)}, 1, 1, [2]complex64{complex(0, 3), 0}},
		{api.Section{B0: complex(1+0x1p-12, 1+0x1p-11)}, [2]complex64{}, complex(1+0x1p-12, 1), complex(0, 2+0x1p-10), [2]complex64{}},
		{api.Section{B0: 1, B1: greatest32, A1: greatest32}, [2]complex64{0, greatest32}, 1, 1, [2]complex64{high, 0}},
	} {
		narrowIs(t, c.s, c.st, c.x, c.y, c.next)
	}
}

func TestNarrowByAnotherRoad(t *testing.T) {
	mix := trial.Mixer(169)
	edges := []float64{0, minus, least32, 3 * least32, 0x1p-126 - least32, 0x1p-126, 0x1p-75, 0x1p-150, 0x1.8p-149, 1e-50, 0x1p63, 0x1p127, greatest32, 0x1.ffffffp127, 1e39, greatest, least, infinity, nan}
	part := func() float64 {
		switch mix.Below(3) {
		case 0:
			return edges[mix.Below(len(edges))]
		case 1:
			return math.Float64frombits(mix.Bits()&^(0x7ff<<52) | uint64(1023-160+mix.Below(300))<<52)
		}
		return mix.Middle()
	}
	single := func(c complex128) complex64 { return complex(float32(real(c)), float32(imag(c))) }
	for round := range 60000 {
		rule := part
		switch round % 4 {
		case 0:
			rule = mix.Middle
		case 1:
			rule = func() float64 { return real(mix.Few(1)[0]) }
		}
		c := mix.Numbers(8, rule)
		s, st, x := trial.Section(c[:5]), [2]complex64{single(c[5]), single(c[6])}, single(c[7])
		y, next := narrowStep(s, st, x)
		narrowIs(t, s, st, x, y, next)
	}
}
