package run_test

import (
	"testing"

	"quaver/api"
	"quaver/run"
	"quaver/trial"
)

// direct is P16.3 by another road.
func direct(s api.Section, samples []complex128) []complex128 {
	// Two noughts stand ahead of the first sample and of the first answer.
	xs, ys := append(make([]complex128, 2), samples...), make([]complex128, 2)
	for i := 2; i < len(xs); i++ {
		y := trial.Both(trial.Product(s.B0, xs[i]), trial.Product(s.B1, xs[i-1]))
		y = trial.Both(y, trial.Product(s.B2, xs[i-2]))
		y = trial.Apart(y, trial.Product(s.A1, ys[i-1]))
		ys = append(ys, trial.Apart(y, trial.Product(s.A2, ys[i-2])))
	}
	return ys[2:]
}

func TestDirect(t *testing.T) {
	low, none := complex(minus, minus), complex(nan, nan)
	for _, c := range []struct {
		s             api.Section
		samples, want []complex128
	}{
		{api.Section{B0: 1}, nil, nil}, {api.Section{B0: complex(nan, 0)}, list(), nil},
		{api.Section{B0: 1, B1: 2, B2: 3}, list(1, 0, 0, 0), list(1, 2, 3, 0)},
		{api.Section{B0: 1, B1: 2, B2: 3, A1: -1, A2: 0.5}, list(1, 0, 0, 0), list(1, 3, 5.5, 4)},
		{api.Section{B0: 1i, A1: 1i}, list(1, 0, 1i), list(1i, 1, complex(-1, -1))},
		{api.Section{B0: 1, A1: -0.9}, list(1, 0, 0), list(1, 0.9, 0x1.9eb851eb851ecp-1)},
		// The noughts ahead of the first sample are multiplied too.
		{api.Section{B0: 1}, list(low, low), list(0, 0)},
		{api.Section{B0: 1, B1: low, B2: low}, list(low, low, low), list(complex(0, minus), 0, 0)},
		{api.Section{B0: 1, B1: complex(infinity, 0)}, list(1, 1), list(none, none)},
		{api.Section{B0: 1, B2: complex(0, nan)}, list(1), list(none)},
		{api.Section{B0: 1, A1: complex(0, infinity)}, list(1), list(none)},
		{api.Section{B0: 1, A2: complex(-infinity, 0)}, list(1), list(none)},
		// The order of the sums and differences.
		{api.Section{B0: 1, B1: 0x1p60, B2: -0x1p60}, list(1, 1, 1), list(1, 0x1p60, 0)},
		{api.Section{B0: 1, B2: 0x1p60, A1: 0x1p60}, list(1, 1), list(1, -0x1p60)},
		{api.Section{B0: 1, B1: 1, A1: 0x1p-60, A2: 1}, list(1, 0, 0), list(1, 1, -1)},
		{api.Section{B0: 1, B1: 1, A1: 1, A2: 0x1p-60}, list(1, 0, 0x1p-60), list(1, 0, 0)},
		// Here Step would keep what Direct's order loses.
		{api.Section{B0: 1, B1: 0x1p60, A1: 0x1p60}, list(1, 1), list(1, 0)},
		{api.Section{B0: greatest, B1: greatest, A1: 2}, list(1, 1), list(greatest, complex(nan, 0))},
		{api.Section{B0: 0.5, A1: -1}, list(3*least, 0, complex(0, -5*least)), list(2*least, 2*least, complex(2*least, -2*least))},
	} {
		are(t, run.Direct(c.s, c.samples), c.want, "P16.3: Direct(%v, %v)", c.s, c.samples)
		are(t, direct(c.s, c.samples), c.want, "by another road: Direct(%v, %v)", c.s, c.samples)
	}
}

func TestDirectByAnotherRoad(t *testing.T) {
	mix := trial.Mixer(165)
	for range 600 {
		rule := mix.Kind()
		s := mix.Section(rule)
		for _, samples := range append(lists(&mix, rule), mix.Few(6)) {
			are(t, run.Direct(s, samples), direct(s, samples), "P16.3: Direct(%x, %x)", s, samples)
		}
	}
	// Every kind of float in one part alone.
	for i := range 8 {
		for _, x := range trial.Floats() {
			c := mix.Numbers(8, mix.Middle)
			was := c[i]
			for _, one := range list(complex(x, imag(was)), complex(real(was), x)) {
				c[i] = one
				s, samples := trial.Section(c[:5]), c[5:]
				are(t, run.Direct(s, samples), direct(s, samples), "P16.3: Direct(%x, %x)", s, samples)
			}
		}
	}
}

func TestDirectIsNotStep(t *testing.T) {
	// The two round otherwise: neither stands for the other.
	mix := trial.Mixer(166)
	unlike := 0
	for range 50 {
		s, samples := mix.Section(mix.Middle), mix.Numbers(5, mix.Middle)
		if answers, _ := run.All(s, api.State{}, samples); !trial.AlikeNumbers(answers, run.Direct(s, samples)) {
			unlike++
		}
	}
	if unlike == 0 {
		t.Error("P16.3: Direct rounds as All does")
	}
}
