package resp_test

import (
	"math"
	"slices"
	"testing"

	"quaver/api"
	"quaver/cplx"
	"quaver/resp"
	"quaver/trial"
)

func TestPeakExamples(t *testing.T) {
	for _, c := range []struct {
		list  []complex128
		place int
		size  float64
		e     api.Errno
	}{
		{list(1, 2i, -2), 1, 2, api.OK}, {list(complex(3, 4)), 0, 5, api.OK}, {list(-1, 1i, complex(3, -4), 5, -5i), 2, 5, api.OK},
		{nil, 0, 0, api.ErrNone}, {list(), 0, 0, api.ErrNone}, {list(complex(nan, 0)), 0, 0, api.ErrNone}, {list(complex(nan, nan), complex(0, nan), complex(nan, 7)), 0, 0, api.ErrNone},
		{list(complex(nan, infinity), 5), 0, infinity, api.OK}, {list(5, complex(-infinity, nan)), 1, infinity, api.OK}, {list(complex(nan, 9), 1, 2, complex(9, nan)), 2, 2, api.OK},
		{list(complex(infinity, 0), complex(0, -infinity)), 0, infinity, api.OK}, {list(greatest, complex(0, infinity), complex(infinity, infinity)), 1, infinity, api.OK},
		// Magnitudes that are rounded: this one goes beyond the greatest number.
		{list(greatest, complex(greatest, greatest), complex(infinity, 0)), 1, infinity, api.OK},
		{list(0), 0, 0, api.OK}, {list(complex(minus, minus), 0), 0, 0, api.OK}, {list(complex(nan, 0), complex(minus, 0), 0), 1, 0, api.OK}, {list(0, complex(0, -least), least), 1, least, api.OK},
	} {
		place, size, e := resp.Peak(c.list)
		if place != c.place || !trial.AlikeFloat(size, c.size) || e != c.e {
			t.Errorf("P22.4: Peak(%v) = %d, %v, %d, want %d, %v, %d", c.list, place, size, e, c.place, c.size, c.e)
		}
	}
}

func TestPeakByAnotherRoad(t *testing.T) {
	mix := trial.Mixer(227)
	none := 0
	for round := range 3000 {
		numbers := mix.Numbers(round%9, mix.Kind())
		sizes := []float64{}
		for _, a := range numbers {
			if size := cplx.Abs(a); !math.IsNaN(size) {
				sizes = append(sizes, size)
			}
		}
		place, size, e := resp.Peak(numbers)
		if len(sizes) == 0 {
			none++
			if place != 0 || !trial.AlikeFloat(size, 0) || e != api.ErrNone {
				t.Fatalf("P22.4: Peak(%v) = %d, %v, %d", numbers, place, size, e)
			}
			continue
		}
		want := slices.Max(sizes)
		first := slices.IndexFunc(numbers, func(a complex128) bool { return cplx.Abs(a) == want })
		if place != first || !trial.AlikeFloat(size, want) || e != api.OK {
			t.Fatalf("P22.4: Peak(%v) = %d, %v, %d, want %d, %v", numbers, place, size, e, first, want)
		}
	}
	if none < 100 {
		t.Errorf("%d lists without a magnitude", none)
	}
}

func TestPeakOfAGrid(t *testing.T) {
	// A pole close to i, a quarter of a turn from 1.
	f := of(1, api.Section{B0: 1, A1: complex(0, -0.9375)})
	if place, size, e := resp.Peak(grid(t, f, 6)); place != 16 || size != 16 || e != api.OK {
		t.Errorf("P22.4: Peak of a grid: %d, %v, %d", place, size, e)
	}
	long := slices.Repeat(list(1, complex(nan, 0)), 50000)
	long[99998] = 2
	if place, size, e := resp.Peak(long); place != 99998 || size != 2 || e != api.OK {
		t.Errorf("P22.4: Peak of a long list: %d, %v, %d", place, size, e)
	}
}
