package resp_test

import (
	"math"
	"slices"
	"testing"

	"quaver/api"
	"quaver/resp"
	"quaver/trial"
)

func TestAtExamples(t *testing.T) {
	for _, c := range []struct {
		f       api.Filter
		z, want complex128
	}{
		{of(2), 1, 2}, {of(2), 1e300, 2}, {of(2), complex(0, least), 2}, {of(2i), -1, 2i},
		{half(), 1, 2}, {half(), 2, 1 / 0.75}, {half(), -1, 1 / 1.5}, {half(), -0.5, 0.5},
		{of(3, api.Section{B0: 1, B1: 2, B2: 4}), 2, 9}, {of(3, api.Section{B0: 1, B1: 2, B2: 4}), complex(0, 2), complex(0, -3)},
		{of(1, api.Section{B0: 1, A2: 3}), complex(0, 2), 4}, {of(1, api.Section{B0: 1, A1: 1}), complex(0, -1), complex(0.5, -0.5)},
		{of(5, api.Section{}), 1, 0}, {of(1, api.Section{B0: 2}, api.Section{B1: 3}, api.Section{B2: 5}), 0.5, 30 * 8},
	} {
		if got := at(t, c.f, c.z); got != c.want {
			t.Errorf("P22.1: At(%v, %v) = %v, want %v", c.f, c.z, got, c.want)
		}
	}
	// At a pole the quotient goes by nought: 1 over 0 has NaNs, and no error is told.
	if a, e := resp.At(half(), 0.5); e != api.OK || !trial.AlikeNumber(a, complex(nan, nan)) {
		t.Errorf("P22.1: At a pole: %v, %d", a, e)
	}
}

// points are numbers that are finite and not nought.
func points(mix *trial.Mixer) []complex128 {
	all := slices.Concat(mix.FiniteNumbers(3), mix.Few(2), mix.Numbers(3, mix.Middle), trial.Signs(least, greatest), trial.Signs(0, least), trial.Signs(0x1p-1030, 0), trial.Signs(1, 0), trial.Signs(0, 1), trial.Signs(0.6, 0.8))
	return slices.DeleteFunc(all, func(z complex128) bool { return z == 0 })
}

func TestAtByAnotherRoad(t *testing.T) {
	mix := trial.Mixer(221)
	often := map[bool]int{}
	for range 150 {
		f := mixed(&mix, 4, mix.Kind())
		for _, z := range points(&mix) {
			got, want := at(t, f, z), stepped(f, z)
			if !trial.AlikeNumber(got, want) {
				t.Fatalf("P22.1: At(%x, %x) = %x, want %x", f, z, got, want)
			}
			often[math.IsNaN(real(got))]++
		}
	}
	if often[true] < 300 || often[false] < 300 {
		t.Errorf("%d answers are NaNs, %d are not", often[true], often[false])
	}
	for n := range api.MaxSections + 1 {
		f := of(complex(0.5, 0.25))
		for range n {
			f.Sections = append(f.Sections, mix.Section(func() float64 { return mix.Middle() / 64 }))
		}
		for _, z := range mix.Numbers(3, mix.Middle) {
			if got, want := at(t, f, z), stepped(f, z); !trial.AlikeNumber(got, want) {
				t.Errorf("P22.1: At(%x, %x), %d sections, = %x, want %x", f, z, n, got, want)
			}
		}
	}
}

// Neither the order of the sections nor that of the steps is free.
func TestAtOrder(t *testing.T) {
	big, small := api.Section{B0: 0x1p1000}, api.Section{B0: 0x1p-1000}
	if got := at(t, of(0x1p100, big, small), 1); !math.IsInf(real(got), 1) && !math.IsNaN(real(got)) {
		t.Errorf("P22.1: a great section first: %v", got)
	}
	if got := at(t, of(0x1p100, small, big), 1); got != 0x1p100 {
		t.Errorf("P22.1: a small section first: %v", got)
	}
	// The quotient first, then the product: the gain alone would go beyond the greatest number.
	if got := at(t, of(0x1p1000, api.Section{B0: 0x1p100, A1: 0x1p200}), 1); got != 0x1p900 {
		t.Errorf("P22.1: the gain goes into the quotient: %v", got)
	}
	// w is rounded by itself: 1/49 * 49 is not 1.
	if got := at(t, of(1, api.Section{B1: 49}), 49); got != 0x1.fffffffffffffp-1 {
		t.Errorf("P22.1: 49 times 1/49: %v", got)
	}
}

func TestAtOfTheGainAlone(t *testing.T) {
	mix := trial.Mixer(222)
	gains := slices.Concat(trial.Noughts(), trial.Endless(), trial.Signs(greatest, least), trial.Signs(0.1, 0))
	for _, gain := range gains {
		for _, z := range points(&mix) {
			if got := at(t, of(gain), z); !trial.AlikeNumber(got, gain) {
				t.Errorf("P22.1: At of the gain %x alone, %x: %x", gain, z, got)
			}
		}
	}
}

func TestAtOfEndlessNumbers(t *testing.T) {
	// The first product of Horner's steps is made all the same, and 0 * w is a NaN where w is infinite.
	for _, c := range []struct {
		f    api.Filter
		z    complex128
		want complex128
	}{
		{of(1, api.Section{B0: 1}), least, complex(nan, nan)},
		{of(complex(infinity, 0)), 3, complex(infinity, 0)},
		{of(complex(infinity, 0), api.Section{B0: 1}), 1, complex(infinity, nan)},
		{of(1, api.Section{B0: complex(infinity, 0)}), 1, complex(nan, nan)},
		{of(1, api.Section{B0: 1, A1: complex(infinity, 0)}), 1, complex(nan, nan)},
		{of(1, api.Section{B0: 1, A2: complex(0, nan)}), 1, complex(nan, nan)},
		{of(complex(nan, 0), api.Section{}), 1, complex(nan, nan)},
	} {
		got, e := resp.At(c.f, c.z)
		if want := stepped(c.f, c.z); e != api.OK || !trial.AlikeNumber(got, want) || !trial.AlikeNumber(got, c.want) {
			t.Errorf("P22.1: At(%v, %v) = %v, %d, want %v (%v)", c.f, c.z, got, e, c.want, want)
		}
	}
}

func TestAtErrors(t *testing.T) {
	full := of(1, slices.Repeat([]api.Section{{B0: 1, A1: -0.5}}, api.MaxSections)...)
	beyond := of(1, make([]api.Section, api.MaxSections+1)...)
	if got := at(t, full, 1); got != 65536 {
		t.Errorf("P22.1: At of %d sections: %v", api.MaxSections, got)
	}
	check := func(name string, f api.Filter, z complex128, want api.Errno) {
		t.Helper()
		if a, e := resp.At(f, z); e != want || !trial.AlikeNumber(a, 0) {
			t.Errorf("P22.1: At, %s, %v: %v, %d, want %d", name, z, a, e, want)
		}
	}
	bad := of(complex(nan, nan), api.Section{B0: complex(infinity, 0), A1: complex(nan, 0)})
	for _, z := range trial.Noughts() {
		check("a nought", full, z, api.ErrZero)
		check("a nought, no sections", of(2), z, api.ErrZero)
		check("a nought, numbers that are not finite", bad, z, api.ErrZero)
		check("17 sections and a nought", beyond, z, api.ErrLong)
	}
	for _, z := range append(trial.Endless(), complex(0, nan), complex(infinity, minus), complex(nan, minus)) {
		check("not finite", full, z, api.ErrNaN)
		check("not finite, no sections", of(2), z, api.ErrNaN)
		check("not finite, nor the filter", bad, z, api.ErrNaN)
		check("17 sections, not finite", beyond, z, api.ErrLong)
	}
	check("17 sections", beyond, 1, api.ErrLong)
	check("100 sections", of(1, make([]api.Section, 100)...), 1, api.ErrLong)
}
