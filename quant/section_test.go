package quant_test

import (
	"math"
	"testing"

	"quaver/api"
	"quaver/quant"
	"quaver/trial"
)

// gives holds Section against what is wanted.
func gives(t *testing.T, s api.Section, bits int, want api.Fixed, count int, wrong api.Errno) {
	t.Helper()
	if f, n, e := quant.Section(s, bits); f != want || n != count || e != wrong {
		t.Errorf("P25.2: Section(%v, %d) = %v, %d, %d, want %v, %d, %d", s, bits, f, n, e, want, count, wrong)
	}
}

func TestSectionExamples(t *testing.T) {
	gives(t, api.Section{B0: complex(1, minus), A1: 2}, 31, api.Fixed{Bits: 31, B0: high, A1: high}, 2, api.OK)
	gives(t, api.Section{B0: 1i}, 31, api.Fixed{}, 0, api.ErrPair)
	gives(t, api.Section{B0: 1i, A1: complex(nan, 0)}, 31, api.Fixed{}, 0, api.ErrNaN)
	gives(t, api.Section{B0: 0.5, B1: 0.25, B2: 0.75, A1: -0.25, A2: -0.75}, 1, api.Fixed{Bits: 1, B0: 1, B1: 0, B2: 2, A1: 0, A2: -2}, 0, api.OK)
	gives(t, api.Section{}, 7, api.Fixed{Bits: 7}, 0, api.OK)
	gives(t, api.Section{B0: 1, B1: -1, B2: 2, A1: -2, A2: 3}, 30, api.Fixed{Bits: 30, B0: 1 << 30, B1: -1 << 30, B2: high, A1: low, A2: high}, 2, api.OK)
}

func TestSection(t *testing.T) {
	mix := trial.Mixer(504)
	for round := range 2000 {
		bits := 1 + round%api.MaxBits
		c := make([]complex128, 5)
		var n [5]int64
		count := 0
		for i := range c {
			x := mix.Middle()
			if mix.Below(4) == 0 {
				x = real(mix.FiniteNumbers(1)[0])
			}
			c[i] = complex(x, []float64{0, minus}[mix.Below(2)])
			out := false
			if n[i], out = fixed(x, bits); out {
				count++
			}
		}
		gives(t, trial.Section(c), bits, api.Fixed{Bits: bits, B0: n[0], B1: n[1], B2: n[2], A1: n[3], A2: n[4]}, count, api.OK)
	}
}

func TestSectionErrors(t *testing.T) {
	for i := range 5 {
		for _, odd := range []complex128{1i, complex(0, trial.Least), complex(1, -trial.Least), complex(3, trial.Greatest)} {
			c := []complex128{1, 2, 3, 4, 5}
			c[i] = odd
			gives(t, trial.Section(c), 4, api.Fixed{}, 0, api.ErrPair)
			for _, bits := range []int{0, 32, -1, math.MaxInt, math.MinInt} {
				gives(t, trial.Section(c), bits, api.Fixed{}, 0, api.ErrArg)
			}
			for j := range 5 {
				for _, bad := range trial.Endless() {
					both := append([]complex128(nil), c...)
					both[j] = bad
					gives(t, trial.Section(both), 31, api.Fixed{}, 0, api.ErrNaN)
					gives(t, trial.Section(both), 32, api.Fixed{}, 0, api.ErrArg)
				}
			}
		}
	}
	for _, bits := range []int{0, 32} {
		gives(t, api.Section{B0: 1}, bits, api.Fixed{}, 0, api.ErrArg)
	}
}
