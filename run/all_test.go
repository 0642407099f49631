package run_test

import (
	"math"
	"slices"
	"testing"

	"quaver/api"
	"quaver/run"
	"quaver/trial"
)

// all is P16.2 by another road.
func all(s api.Section, st api.State, samples []complex128) ([]complex128, api.State) {
	var answers []complex128
	for _, x := range samples {
		var y complex128
		y, st = trial.Step(s, st, x)
		answers = append(answers, y)
	}
	return answers, st
}

func TestAll(t *testing.T) {
	for _, c := range []struct {
		s             api.Section
		st            api.State
		samples, want []complex128
		end           api.State
	}{
		{api.Section{B0: 1, B1: 2, B2: 3}, api.State{}, list(1, 0, 0, 0), list(1, 2, 3, 0), api.State{}},
		{api.Section{B0: 1, A1: -0.5}, api.State{}, list(1, 0, 0), list(1, 0.5, 0.25), api.State{S1: 0.125}},
		{api.Section{B0: 1, A1: -0.9}, api.State{}, list(1, 0, 0), list(1, 0.9, 0x1.9eb851eb851ecp-1), api.State{S1: 0x1.753f7ced91688p-1}},
		{api.Section{B0: 2}, api.State{S1: 1, S2: 1i}, list(1, 1), list(3, complex(2, 1)), api.State{}},
		{api.Section{B0: 1}, api.State{S1: 7, S2: 9}, nil, nil, api.State{S1: 7, S2: 9}},
		{api.Section{B0: complex(nan, 0)}, api.State{S1: complex(minus, nan), S2: complex(-infinity, minus)}, nil, nil, api.State{S1: complex(minus, nan), S2: complex(-infinity, minus)}},
	} {
		got, end := run.All(c.s, c.st, c.samples)
		are(t, got, c.want, "P16.2: All(%v, %v, %v)", c.s, c.st, c.samples)
		stands(t, end, c.end, "P16.2: All(%v, %v, %v)", c.s, c.st, c.samples)
	}
	mix := trial.Mixer(163)
	for range 400 {
		rule := mix.Kind()
		s, st := mix.Section(rule), mix.State(rule)
		for _, samples := range lists(&mix, rule) {
			want, last := all(s, st, samples)
			got, end := run.All(s, st, samples)
			are(t, got, want, "P16.2: All(%x, %x, %x)", s, st, samples)
			stands(t, end, last, "P16.2: All(%x, %x, %x)", s, st, samples)
		}
	}
}

func TestNothingIsFlushed(t *testing.T) {
	halves := api.Section{B0: 1, A1: -0.5}
	got, end := run.All(halves, api.State{}, append(list(1), make([]complex128, 1099)...))
	if len(got) != 1100 {
		t.Fatalf("P16.2: %d answers", len(got))
	}
	for i, y := range got {
		// 2^-1075 lies halfway between nought and the least number, and goes to the even one.
		trial.Is(t, y, complex(math.Ldexp(1, -i), 0), "P16.6: the answer %d", i)
	}
	stands(t, end, api.State{}, "P16.6: behind 1100 samples")
	keeps := api.Section{B0: 1, A1: -1}
	got, end = run.All(keeps, api.State{}, list(3*least, 0, 0, 0, complex(0, -least), 0))
	are(t, got, list(3*least, 3*least, 3*least, 3*least, complex(3*least, -least), complex(3*least, -least)), "P16.6: subnormal answers")
	stands(t, end, api.State{S1: complex(3*least, -least)}, "P16.6: subnormal numbers")
	// A nought's sign is handed on as long as the lines keep it.
	low := complex(minus, minus)
	got, end = run.All(api.Section{B0: 1}, api.State{S1: low, S2: low}, list(low, low, low))
	are(t, got, list(complex(0, minus), complex(0, minus), complex(0, minus)), "P16.6: noughts")
	stands(t, end, api.State{S1: complex(0, minus), S2: complex(0, minus)}, "P16.6: noughts")
}

func TestEndlessSamplesGoOn(t *testing.T) {
	for _, bad := range trial.Endless() {
		s := api.Section{B0: 0.5, B1: 1, B2: 2, A1: -0.25, A2: 0.125}
		samples := list(1, 2, bad, 3, complex(0, 1), 0)
		want, last := all(s, api.State{}, samples)
		got, end := run.All(s, api.State{}, samples)
		are(t, got, want, "P16.6: All of %v", samples)
		stands(t, end, last, "P16.6: All of %v", samples)
		if trial.Finite(real(got[5])) && trial.Finite(imag(got[5])) {
			t.Errorf("P16.6: behind %v comes %v", bad, got[5])
		}
		// Without poles it is gone behind three samples, unless a product with nought keeps it.
		free, _ := run.All(api.Section{B0: 1, B1: 1, B2: 1}, api.State{}, samples)
		want, _ = all(api.Section{B0: 1, B1: 1, B2: 1}, api.State{}, samples)
		are(t, free, want, "P16.6: All of %v", samples)
	}
}

func TestCutInTwo(t *testing.T) {
	mix := trial.Mixer(164)
	for round := range 200 {
		rule := mix.Kind()
		s, st := mix.Section(rule), mix.State(rule)
		samples := mix.Numbers(round%30, rule)
		whole, end := run.All(s, st, samples)
		if len(whole) != len(samples) {
			t.Fatalf("P16.2: %d answers to %d samples", len(whole), len(samples))
		}
		for cut := range len(samples) + 1 {
			first, middle := run.All(s, st, samples[:cut])
			second, last := run.All(s, middle, samples[cut:])
			are(t, slices.Concat(first, second), whole, "P16.6: cut at %d", cut)
			stands(t, last, end, "P16.6: cut at %d", cut)
		}
	}
}
