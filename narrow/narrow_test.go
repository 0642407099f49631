package narrow_test

import (
	"math"
	"math/big"
	"testing"

	"quaver/narrow"
)

// halfway are numbers between two float32, each with the float32 that it is rounded to.
func halfway() []struct {
	x    float64
	want float32
} {
	return []struct {
		x    float64
		want float32
	}{
		{0, 0}, {1, 1}, {0.1, 0.1}, {1 + 0x1p-30, 1},
		{1 + 0x1p-24, 1}, {1 + 0x1p-24 + 0x1p-52, 1 + 0x1p-23}, {1 + 0x1p-24 - 0x1p-52, 1}, {1 + 0x1.8p-23, 1 + 0x1p-22}, {1 + 0x1.8p-23 - 0x1p-52, 1 + 0x1p-23}, {1 - 0x1p-25, 1}, {1 - 0x1p-25 - 0x1p-53, 1 - 0x1p-24},
		// The greatest, and half a step beyond it.
		{greatest, greatest}, {0x1.fffffefffffffp127, greatest}, {0x1.ffffffp127, infinity}, {0x1.ffffffp127 + 0x1p75, infinity}, {0x1p128, infinity}, {1e39, infinity}, {math.MaxFloat64, infinity}, {math.Inf(1), infinity},
		// The least, and half of it; subnormal numbers.
		{least, least}, {0x1p-150, 0}, {0x1.0000000000001p-150, least}, {0x1.fffffffffffffp-151, 0}, {0x1.8p-149, 2 * least}, {0x1.7ffffffffffffp-149, least}, {0x1.4p-148, 2 * least}, {1e-50, 0}, {math.SmallestNonzeroFloat64, 0}, {0x1p-1022, 0},
		{leastNormal - least, leastNormal - least}, {leastNormal - 0x1p-150, leastNormal}, {leastNormal - 0x1p-150 - 0x1p-179, leastNormal - least}, {leastNormal, leastNormal},
	}
}

func TestTo(t *testing.T) {
	for _, c := range halfway() {
		for _, d := range halfway() {
			is(t, narrow.To(complex(c.x, d.x)), complex(c.want, d.want), "P4.1: To(%x, %x)", c.x, d.x)
			is(t, narrow.To(complex(-c.x, math.Copysign(d.x, -1))), complex(-c.want, -d.want), "P4.1: To(-%x, -%x)", c.x, d.x)
		}
	}
	is(t, narrow.To(complex(1e-50, -1e-50)), complex(0, minus), "P4.1: To(1e-50, -1e-50)")
	is(t, narrow.To(complex(1e39, 0)), complex(infinity, 0), "P4.1: To(1e39)")
	is(t, narrow.To(complex(math.NaN(), math.Inf(-1))), complex(nan, -infinity), "P4.1: To(NaN, -inf)")
	// A NaN whose bits all fall out is one all the same.
	is(t, narrow.To(complex(math.Float64frombits(0x7ff0000000000001), -2)), complex(nan, -2), "P4.1: To(NaN, -2)")
	is(t, narrow.To(complex(-2, math.Float64frombits(0xfff8000000000000))), complex(-2, nan), "P4.1: To(-2, NaN)")
}

func TestToByAnotherRoad(t *testing.T) {
	mix := mixer{1}
	for range 30000 {
		x := math.Float64frombits(mix.Bits()&^(0x7ff<<52) | uint64(1023-160+mix.Below(290))<<52)
		if mix.Below(2) == 0 { // halfway, or one step beside it
			x = math.Float64frombits(math.Float64bits(x)>>29<<29 | 1<<28 + uint64(mix.Below(3)) - 1)
		}
		want, _ := new(big.Rat).SetFloat64(x).Float32()
		is(t, narrow.To(complex(x, -x)), complex(want, -want), "P4.1: To(%x, its other)", x)
	}
}

func TestFrom(t *testing.T) {
	mix := mixer{2}
	list := corners()
	for range 10000 {
		list = append(list, mix.number())
	}
	for _, a := range list {
		w := narrow.From(a)
		is(t, narrow.To(w), a, "P4.1: To(From(%x))", a)
		for _, p := range []struct {
			x float32
			y float64
		}{{real(a), real(w)}, {imag(a), imag(w)}} {
			if p.x != p.x {
				if p.y == p.y {
					t.Errorf("P4.1: From(%x) = %x", a, w)
				}
				continue
			}
			exact, _ := big.NewFloat(p.y).Float32()
			if !alike(exact, p.x) || big.NewFloat(p.y).MinPrec() > 24 || math.Signbit(p.y) != math.Signbit(float64(p.x)) {
				t.Errorf("P4.1: From(%x) = %x", a, w)
			}
		}
		if !narrow.Exact(w) {
			t.Errorf("P4.1: Exact(From(%x)) = false", a)
		}
	}
	if narrow.From(complex(3, -4)) != complex(3, -4) || real(narrow.From(complex(least, 0.1))) != 0x1p-149 || imag(narrow.From(complex(least, 0.1))) != 0x1.99999ap-4 {
		t.Errorf("P4.1: From")
	}
}

func TestExact(t *testing.T) {
	for _, c := range halfway() {
		want := float64(c.want) == c.x
		for _, a := range []complex128{complex(c.x, 0), complex(1, c.x), complex(-c.x, 0.5), complex(math.Copysign(0, -1), -c.x), complex(c.x, c.x), complex(math.NaN(), c.x), complex(c.x, math.Inf(-1))} {
			if narrow.Exact(a) != want {
				t.Errorf("P4.1: Exact(%x) = %v", a, !want)
			}
		}
	}
	for _, a := range []complex128{complex(0.5, math.Copysign(0, -1)), complex(math.NaN(), 0), complex(0, math.Float64frombits(0xfff0000000000001)), complex(math.NaN(), math.NaN()), complex(math.Inf(1), math.Inf(-1)), complex(0x1.fffffep127, 0x1p-149), 0} {
		if !narrow.Exact(a) {
			t.Errorf("P4.1: Exact(%x) = false", a)
		}
	}
	for _, a := range []complex128{0.1, complex(0, 0.1), complex(1, 0x1p-150), complex(1e39, 1), complex(math.NaN(), 0.1), complex(0x1p-1074, 0)} {
		if narrow.Exact(a) {
			t.Errorf("P4.1: Exact(%x) = true", a)
		}
	}
}

func TestSame(t *testing.T) {
	list := corners()
	mix := mixer{3}
	for _, a := range list {
		if !narrow.Same(a, a) {
			t.Errorf("P4.2: Same(%x, itself) = false", a)
		}
		for range 100 {
			b := list[mix.Below(len(list))]
			if mix.Below(2) == 0 {
				b = complex(real(a), imag(b))
			}
			if got := narrow.Same(a, b); got != both(a, b) {
				t.Errorf("P4.2: Same(%x, %x) = %v", a, b, got)
			}
		}
	}
	for _, c := range []struct {
		a, b complex64
		want bool
	}{
		{0, complex(0, minus), false}, {0, complex(minus, 0), false}, {complex(nan, 1), complex(math.Float32frombits(0xff800001), 1), true}, {complex(1, nan), complex(1, math.Float32frombits(0xffffffff)), true}, {complex(nan, 1), complex(nan, 2), false}, {complex(nan, 1), complex(1, nan), false}, {complex(nan, infinity), complex(nan, -infinity), false}, {complex(1, 2), complex(2, 1), false}, {1, complex(1, least), false}, {complex(1+0x1p-23, 0), 1, false},
	} {
		if narrow.Same(c.a, c.b) != c.want || narrow.Same(c.b, c.a) != c.want {
			t.Errorf("P4.2: Same(%x, %x) = %v", c.a, c.b, !c.want)
		}
	}
}
