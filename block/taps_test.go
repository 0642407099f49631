package block_test

import (
	"testing"

	"quaver/api"
	"quaver/block"
	"quaver/trial"
)

func TestTapsExamples(t *testing.T) {
	are(t, tapped(t, list(1, 2), list(3, 4, 5)), list(3, 10, 13), "example 1")
	are(t, tapped(t, nil, list(3, 4)), list(0, 0), "example 1: without taps")
	if y, e := block.Taps(make([]complex128, 1025), list(1)); len(y) != 0 || e != api.ErrLong {
		t.Errorf("example 1: Taps of 1025 taps: %v, %d", y, e)
	}
}

func TestTaps(t *testing.T) {
	mix := trial.Mixer(401)
	for range 300 {
		rule := mix.Kind()
		for _, c := range [][2]int{{0, 0}, {0, 3}, {1, 0}, {1, 1}, {1, 4}, {2, 1}, {3, 3}, {3, 7}, {7, 3}, {9, 10}} {
			taps, xs := mix.Numbers(c[0], rule), mix.Numbers(c[1], rule)
			are(t, tapped(t, taps, xs), tappedOf(taps, xs), "P21.1: Taps(%x, %x)", taps, xs)
		}
	}
	// By true numbers, rounded step by step.
	for range 100 {
		taps, xs := mix.Samples(3), mix.Samples(4)
		y := tapped(t, taps, xs)
		for i := range xs {
			var s complex128
			for j := 0; j < len(taps) && j <= i; j++ {
				s = trial.Both(s, trial.Product(taps[j], xs[i-j]))
			}
			trial.Is(t, y[i], s, "P21.1: Taps(%x, %x) at %d", taps, xs, i)
		}
	}
}

func TestTapsOrder(t *testing.T) {
	// From the left 1 swallows both halves of a step; from the right they make a whole one.
	are(t, tapped(t, list(1, 1, 1), list(0x1p-53, 0x1p-53, 1)), list(0x1p-53, 0x1p-52, 1), "P21.1: the sum from the left")
	are(t, tapped(t, list(1, 1, 1), list(1, 0x1p-53, 0x1p-53)), list(1, 1, 1+0x1p-52), "P21.1: the sum from the left")
	// The tap is the first factor: which NaN comes is free, noughts are alike; the order of taps is not.
	are(t, tapped(t, list(1, 2, 4), list(1, 0, 0, 0)), list(1, 2, 4, 0), "P21.1: the taps one by one")
	are(t, tapped(t, list(1i, 2), list(1, 1i)), list(1i, 1), "P21.1: complex taps")
}

func TestTapsNoughts(t *testing.T) {
	// A sum from the left begins with +0.
	for _, z := range trial.Noughts() {
		for _, tap := range append(trial.Noughts(), 1, -1) {
			are(t, tapped(t, list(tap), list(z)), list(0), "P21.1: Taps(%v, %v)", tap, z)
		}
	}
	are(t, tapped(t, list(), list(complex(minus, minus), complex(nan, infinity))), list(0, 0), "P21.1: without taps")
	are(t, tapped(t, nil, nil), nil, "P21.1: without taps and samples")
	are(t, tapped(t, list(1), nil), nil, "P21.1: without samples")
}

func TestTapsEndless(t *testing.T) {
	mix := trial.Mixer(402)
	for _, bad := range trial.Endless() {
		for place := range 4 {
			taps, xs := mix.Few(4), mix.Few(6)
			xs[place] = bad
			y := tapped(t, taps, xs)
			are(t, y, tappedOf(taps, xs), "P21.1: Taps(%v, %v)", taps, xs)
			// Ahead of it, and more than all taps behind it, nothing is spoilt.
			for i, a := range y {
				if spoilt := i >= place && i < place+len(taps); spoilt == (trial.Finite(real(a)) && trial.Finite(imag(a))) {
					t.Errorf("P21.1: Taps(%v, %v) at %d: %v", taps, xs, i, a)
				}
			}
			taps, xs = mix.Few(4), mix.Few(6)
			taps[place] = bad
			are(t, tapped(t, taps, xs), tappedOf(taps, xs), "P21.1: Taps(%v, %v)", taps, xs)
		}
	}
	// Infinite in one part alone.
	are(t, tapped(t, list(complex(2, 0)), list(greatest, complex(0, -greatest))), list(complex(infinity, 0), complex(0, -infinity)), "P21.1: beyond the greatest number")
}

func TestTapsLimits(t *testing.T) {
	mix := trial.Mixer(403)
	taps, xs := mix.Numbers(api.MaxTaps+1, mix.Middle), mix.Numbers(api.MaxTaps+20, mix.Middle)
	for _, n := range []int{api.MaxTaps - 1, api.MaxTaps} {
		for _, m := range []int{0, 1, 2, 100, api.MaxTaps, api.MaxTaps + 20} {
			are(t, tapped(t, taps[:n], xs[:m]), tappedOf(taps[:n], xs[:m]), "P21.1: %d taps, %d samples", n, m)
		}
	}
	for _, n := range []int{api.MaxTaps + 1, 2 * api.MaxTaps, 100000} {
		long := make([]complex128, n)
		long[n-1] = complex(nan, infinity)
		for _, samples := range [][]complex128{nil, {}, list(1), xs, list(complex(nan, 0))} {
			if y, e := block.Taps(long, samples); len(y) != 0 || e != api.ErrLong {
				t.Errorf("Errors: Taps of %d taps, %d samples: %v, %d", n, len(samples), y, e)
			}
		}
	}
}
