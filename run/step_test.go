package run_test

import (
	"testing"

	"quaver/api"
	"quaver/run"
	"quaver/trial"
)

// step asks for one step, and for the same by All.
func step(t *testing.T, s api.Section, st api.State, x, want complex128, next api.State) {
	t.Helper()
	y, after := run.Step(s, st, x)
	trial.Is(t, y, want, "P16.1: Step(%x, %x, %x)", s, st, x)
	stands(t, after, next, "P16.1: Step(%x, %x, %x)", s, st, x)
	answers, end := run.All(s, st, list(x))
	are(t, answers, list(want), "P16.2: All(%x, %x, %x)", s, st, x)
	stands(t, end, next, "P16.2: All(%x, %x, %x)", s, st, x)
}

func TestStep(t *testing.T) {
	low, high := complex(minus, minus), complex(infinity, 0)
	none := api.State{S1: complex(nan, nan), S2: complex(nan, nan)}
	for _, c := range []struct {
		s    api.Section
		st   api.State
		x, y complex128
		next api.State
	}{
		{api.Section{B0: 1, A1: -0.5}, api.State{}, 1, 1, api.State{S1: 0.5}},
		{api.Section{B0: 1, B1: 2, B2: 3, A1: 4, A2: 5}, api.State{S1: 10, S2: 20}, 2, 12, api.State{S1: -24, S2: -54}},
		{api.Section{B0: 1i, B1: 2, B2: 3i, A1: 1i, A2: complex(0, -2)}, api.State{S1: complex(0, 5), S2: 7}, 1i, complex(-1, 5), api.State{S1: complex(12, 3), S2: complex(-13, -2)}},
		{api.Section{B0: 1i}, api.State{}, 1i, -1, api.State{}},
		// Noughts of both signs: the products' parts have theirs, the state's and the section's.
		{api.Section{B0: 1}, api.State{S1: low}, low, complex(0, minus), api.State{S2: complex(0, minus)}},
		{api.Section{B0: 1}, api.State{S1: low, S2: low}, low, complex(0, minus), api.State{S1: complex(0, minus), S2: complex(0, minus)}},
		{api.Section{B0: 1}, api.State{}, low, 0, api.State{S2: complex(0, minus)}},
		{api.Section{}, api.State{S1: low}, 0, 0, api.State{}},
		{api.Section{B0: low}, api.State{S1: low}, 1, complex(0, minus), api.State{}},
		{api.Section{B0: complex(minus, 0)}, api.State{S1: low}, 1, complex(minus, 0), api.State{}},
		// Subnormal numbers stay, and are made.
		{api.Section{B0: 0.5, B1: 1, A1: -1}, api.State{}, 3 * least, 2 * least, api.State{S1: 5 * least}},
		{api.Section{B0: 0x1p-1000, B2: 0x1p-1040, A2: complex(0, 0.5)}, api.State{S1: -least, S2: least}, 0x1p-70, 0x1p-1070 - least, api.State{S1: least, S2: complex(0, -8*least)}},
		// One part alone that is not finite.
		{api.Section{B0: 1}, api.State{}, high, complex(infinity, nan), none},
		{api.Section{B0: 1}, api.State{S1: high}, 0, high, none},
		{api.Section{B0: 1, B1: 1}, api.State{S2: complex(0, -infinity)}, 1, 1, api.State{S1: complex(1, -infinity)}},
		{api.Section{B0: 1, A2: complex(0, nan)}, api.State{}, 1, 1, api.State{S2: complex(nan, nan)}},
		{api.Section{B2: complex(0, infinity)}, api.State{S1: 3}, 1, 3, api.State{S2: complex(nan, infinity)}},
		{api.Section{B1: complex(nan, 1)}, api.State{S2: 3}, 1, 0, api.State{S1: complex(nan, nan)}},
		{api.Section{B0: 1, B1: 1}, api.State{S2: complex(nan, 1)}, 1, 1, api.State{S1: complex(nan, 1)}},
		{api.Section{B0: complex(0, nan)}, api.State{}, 0, complex(nan, nan), none},
		{api.Section{B0: greatest}, api.State{}, 2, complex(infinity, 0), none},
		{api.Section{B0: complex(greatest, greatest)}, api.State{}, complex(2, 2), complex(nan, infinity), none},
		// The order of the sums and differences.
		{api.Section{B0: 1, B1: 1, A1: 0x1p60}, api.State{S2: 0x1p60}, 1, 1, api.State{}},
		{api.Section{B0: 1, B1: 1, A1: 1}, api.State{S2: complex(0x1p-60, 3)}, 1, 1, api.State{S1: complex(0, 3)}},
		{api.Section{B0: 1, B1: greatest, A1: greatest}, api.State{S2: greatest}, 1, 1, api.State{S1: complex(infinity, 0)}},
		// Each product's parts are rounded by themselves.
		{api.Section{B0: complex(1+0x1p-27, 1+0x1p-26)}, api.State{}, complex(1+0x1p-27, 1), complex(0, 2+0x1p-25), api.State{}},
	} {
		step(t, c.s, c.st, c.x, c.y, c.next)
	}
}

// around hands on what is made of eight numbers: a section, a state and a sample.
func around(c []complex128, look func(s api.Section, st api.State, x complex128)) {
	look(trial.Section(c[:5]), api.State{S1: c[5], S2: c[6]}, c[7])
}

func TestStepByAnotherRoad(t *testing.T) {
	check := func(s api.Section, st api.State, x complex128) {
		y, next := trial.Step(s, st, x)
		step(t, s, st, x, y, next)
	}
	mix := trial.Mixer(161)
	for range 4000 {
		around(mix.Numbers(8, mix.Kind()), check)
	}
	for range 2000 {
		around(mix.Few(8), check)
	}
	// Every kind of float in one part alone, beside ordinary numbers and beside noughts.
	for i := range 8 {
		for _, x := range trial.Floats() {
			for _, rest := range [][]complex128{mix.Numbers(8, mix.Middle), make([]complex128, 8), mix.Few(8)} {
				was := rest[i]
				rest[i] = complex(x, imag(was))
				around(rest, check)
				rest[i] = complex(real(was), x)
				around(rest, check)
			}
		}
	}
}

func TestOrderOfTheSums(t *testing.T) {
	// Another order of a line would be seen: otherwise the numbers above would not tell.
	mix := trial.Mixer(162)
	var other, last int
	for range 300 {
		around(mix.Numbers(8, mix.Middle), func(s api.Section, st api.State, x complex128) {
			y, next := run.Step(s, st, x)
			b, a := trial.Product(s.B1, x), trial.Product(s.A1, y)
			if next.S1 != trial.Both(b, trial.Apart(st.S2, a)) {
				other++
			}
			if next.S1 != trial.Both(trial.Apart(b, a), st.S2) {
				last++
			}
		})
	}
	if other == 0 || last == 0 {
		t.Errorf("P16.1: of 300 steps %d and %d tell the order of the sums", other, last)
	}
}
