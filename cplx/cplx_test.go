package cplx_test

import (
	"math"
	"slices"
	"testing"

	"quaver/api"
	"quaver/cplx"
	"quaver/trial"
)

func TestSame(t *testing.T) {
	list := corners()
	mix := mixer{8}
	for _, a := range list {
		if !cplx.Same(a, a) {
			t.Errorf("P3.1: Same(%x, itself) = false", a)
		}
		for range 60 {
			b := list[mix.Below(len(list))]
			if mix.Below(2) == 0 {
				b = complex(real(a), imag(b))
			}
			if got := cplx.Same(a, b); got != trial.AlikeNumber(a, b) {
				t.Errorf("P3.1: Same(%x, %x) = %v", a, b, got)
			}
		}
	}
	for _, c := range []struct {
		a, b complex128
		want bool
	}{
		{complex(minus, 0), 0, false}, {complex(0, minus), 0, false}, {complex(nan, 1), complex(trial.Turned(nan), 1), true}, {complex(1, nan), complex(1, math.Float64frombits(0x7ff0000000000001)), true}, {complex(nan, 1), complex(nan, 2), false}, {complex(nan, 1), complex(1, nan), false}, {complex(nan, nan), complex(nan, infinity), false}, {complex(infinity, 1), complex(-infinity, 1), false}, {complex(1, 2), complex(2, 1), false},
	} {
		if cplx.Same(c.a, c.b) != c.want || cplx.Same(c.b, c.a) != c.want {
			t.Errorf("P3.1: Same(%x, %x) = %v", c.a, c.b, !c.want)
		}
	}
}

func TestOfAndFinite(t *testing.T) {
	classes := [][]float64{
		api.Zero:      {0, minus},
		api.Subnormal: {least, -least, leastNormal - least},
		api.Normal:    {leastNormal, -leastNormal, 1, -greatest},
		api.Infinite:  {infinity, -infinity},
		api.NaN:       {nan, trial.Turned(nan), math.Float64frombits(0x7ff0000000000001)},
	}
	for i, reals := range classes {
		for j, imags := range classes {
			want := api.Class(max(i, j))
			for _, re := range reals {
				for _, im := range imags {
					if got := cplx.Of(complex(re, im)); got != want {
						t.Errorf("P3.1: Of(%x, %x) = %d, want %d", re, im, got, want)
					}
					if got := cplx.Finite(complex(re, im)); got != (want < api.Infinite) {
						t.Errorf("P3.1: Finite(%x, %x) = %v", re, im, got)
					}
				}
			}
		}
	}
}

func TestOrder(t *testing.T) {
	rising := []float64{-infinity, -greatest, -1, -least, minus, 0, least, leastNormal, 1, greatest, infinity, nan}
	var list []complex128
	for _, re := range rising {
		for _, im := range rising {
			list = append(list, complex(re, im))
		}
	}
	for i, a := range list {
		for j, b := range list {
			want := 0
			if i < j {
				want = -1
			} else if i > j {
				want = 1
			}
			if got := cplx.Order(a, b); got != want {
				t.Errorf("P3.8: Order(%x, %x) = %d, want %d", a, b, got, want)
			}
		}
	}
	for _, c := range []struct {
		a, b complex128
		want int
	}{
		{complex(minus, 1), complex(0, 0), -1}, {complex(0, nan), complex(0, infinity), 1}, {complex(nan, 0), complex(trial.Turned(nan), 0), 0}, {complex(nan, 0), complex(trial.Turned(nan), 1), -1}, {2, complex(1, 9), 1},
	} {
		if got := cplx.Order(c.a, c.b); got != c.want {
			t.Errorf("P3.8: Order(%x, %x) = %d, want %d", c.a, c.b, got, c.want)
		}
	}
}

// firsts is P3.9 by another road: each number is held against all ahead of it.
func firsts(list []complex128) []complex128 {
	var out []complex128
	for i, a := range list {
		if !slices.Contains(list[:i], a) {
			out = append(out, a)
		}
	}
	return out
}

func TestUnlike(t *testing.T) {
	for _, c := range []struct{ list, want []complex128 }{
		{nil, nil}, {[]complex128{}, nil}, {[]complex128{7}, []complex128{7}},
		{[]complex128{1, complex(1, 0), complex(1, minus), complex(0, 1), 1}, []complex128{1, complex(0, 1)}},
		{[]complex128{complex(minus, 0), 0, complex(0, minus), complex(minus, minus)}, []complex128{complex(minus, 0)}},
		{[]complex128{0, complex(minus, minus), 1, complex(minus, 0)}, []complex128{0, 1}},
		{[]complex128{complex(2, minus), 3, 2, complex(3, minus)}, []complex128{complex(2, minus), 3}},
		{[]complex128{complex(nan, 0), 1, complex(nan, 0), 1, complex(0, nan), complex(0, nan), complex(nan, nan), complex(nan, nan)}, []complex128{complex(nan, 0), 1, complex(nan, 0), complex(0, nan), complex(0, nan), complex(nan, nan), complex(nan, nan)}},
		{[]complex128{complex(infinity, 0), complex(-infinity, 0), complex(infinity, minus)}, []complex128{complex(infinity, 0), complex(-infinity, 0)}},
		{[]complex128{complex(0, least), 0, complex(0, 2*least)}, []complex128{complex(0, least), 0, complex(0, 2*least)}},
		{[]complex128{3, 1, 2, 1, 3}, []complex128{3, 1, 2}}, {[]complex128{complex(1, 2), complex(2, 1)}, []complex128{complex(1, 2), complex(2, 1)}},
	} {
		if got := cplx.Unlike(c.list); !trial.AlikeNumbers(got, c.want) {
			t.Errorf("P3.9: Unlike(%v) = %v, want %v", c.list, got, c.want)
		}
	}
	mix := mixer{9}
	for range 300 {
		list := make([]complex128, mix.Below(60))
		for i := range list {
			list[i] = mix.number()
			if i > 0 && mix.Below(2) == 0 {
				list[i] = list[mix.Below(i)]
			}
		}
		if got, want := cplx.Unlike(list), firsts(list); !trial.AlikeNumbers(got, want) {
			t.Errorf("P3.9: Unlike(%v) = %v, want %v", list, got, want)
		}
	}
}

func TestUnlikeOfMany(t *testing.T) {
	const n = 1 << 16
	list := make([]complex128, 2*n)
	for i := range list {
		list[i] = complex(float64(i%n%256), float64(i%n/256))
	}
	got := cplx.Unlike(list)
	if !trial.AlikeNumbers(got, list[:n]) {
		t.Errorf("P3.9: Unlike of %d numbers twice: %d", n, len(got))
	}
	for i := range list {
		list[i] = complex(0, nan)
	}
	if got := cplx.Unlike(list); len(got) != 2*n {
		t.Errorf("P3.9: Unlike of %d NaNs: %d", 2*n, len(got))
	}
}

func TestUnlikeMemory(t *testing.T) {
	unlike := func(args [][]complex128) [][]complex128 { return [][]complex128{cplx.Unlike(args[0])} }
	for _, list := range [][]complex128{{}, {5}, {1, 2, 3}, {1, 1, 2}, {complex(nan, 0), 0, complex(minus, 0)}, {4, 4, 4, 4}} {
		if fault := trial.TouchedLists(unlike, list); fault != "" {
			t.Errorf("Memory: Unlike(%v): %s", list, fault)
		}
	}
	if fault := trial.BesideLists(unlike, append(corners(), corners()...)); fault != "" {
		t.Errorf("P2: Unlike: %s", fault)
	}
}
