package biquad_test

import (
	"testing"

	"quaver/api"
	"quaver/biquad"
	"quaver/cplx"
	"quaver/trial"
)

// three are three numbers, those that are not told noughts.
type three = [3]complex128

func TestQuotientExamples(t *testing.T) {
	third := complex(1.0/3, 0)
	s, e := biquad.Quotient(three{1, 2, 1}, three{3, 0, 1})
	is(t, s, e, api.Section{B0: third, B1: 2.0 / 3, B2: third, A2: third}, api.OK, "P15.2: Quotient((1, 2, 1), (3, 0, 1))")
	s, e = biquad.Quotient(three{1, 2, 1}, three{0, 1, 1})
	is(t, s, e, api.Section{}, api.ErrZero, "P15.2: Quotient by nought")
	s, e = biquad.Quotient(three{1}, three{trial.Least})
	is(t, s, e, api.Section{}, api.ErrOver, "P15.2: Quotient beyond the greatest")
}

func TestQuotients(t *testing.T) {
	tiny := trial.Least
	for _, c := range []struct {
		b, a three
		want api.Section
	}{
		{three{}, three{1}, api.Section{}}, {three{1, 2, 3}, three{1, 4, 5}, api.Section{B0: 1, B1: 2, B2: 3, A1: 4, A2: 5}}, {three{1, 2, 3}, three{-2, 4, 6}, api.Section{B0: -0.5, B1: -1, B2: -1.5, A1: -2, A2: -3}},
		{three{complex(1, 2), complex(0, 1), 5}, three{complex(3, -1), complex(3, -1), 10}, api.Section{B0: complex(0.1, 0.7), B1: complex(-0.1, 0.3), B2: complex(1.5, 0.5), A1: 1, A2: complex(3, 1)}},
		{three{1, 2, 3}, three{complex(0, 1), 1, complex(0, 2)}, api.Section{B0: complex(0, -1), B1: complex(0, -2), B2: complex(0, -3), A1: complex(0, -1), A2: 2}},
		// True noughts are +0, in one part or in both.
		{three{complex(minus, minus), complex(0, minus), complex(minus, 0)}, three{-1, complex(minus, 0), complex(0, minus)}, api.Section{}}, {three{complex(-3, minus), complex(minus, -3), -3}, three{complex(-1, minus)}, api.Section{B0: 3, B1: complex(0, 3), B2: 3}}, {three{complex(1, 1), complex(1, -1), complex(2, 2)}, three{complex(1, 1), complex(-1, 1), 0}, api.Section{B0: 1, B1: complex(0, -1), B2: 2, A1: complex(0, 1)}},
		// Subnormal ones, ties, and what is rounded to the nought of its sign.
		{three{complex(tiny, 0), complex(-tiny, 0), complex(0, -tiny)}, three{2, complex(3*tiny, 0), complex(0, -3*tiny)}, api.Section{B1: complex(minus, 0), B2: complex(0, minus), A1: complex(2*tiny, 0), A2: complex(0, -2*tiny)}}, {three{complex(tiny, 0), complex(-tiny, 0), 0}, three{-trial.Greatest, 0x1p-1000, -0x1p-1000}, api.Section{B0: complex(minus, 0), A1: complex(minus, 0)}},
		// Beside the greatest, by a divisor that is subnormal, or greater than all that it divides.
		{three{0x1p-51, complex(tiny, 0), complex(0, tiny)}, three{complex(tiny, 0), 0x1.fffffffffffffp-51, complex(3*tiny, 0)}, api.Section{B0: 0x1p1023, B1: 1, B2: complex(0, 1), A1: trial.Greatest, A2: 3}}, {three{trial.Greatest, 1, 0}, three{complex(0, trial.Greatest), trial.Greatest, 0}, api.Section{B0: complex(0, -1), B1: complex(0, -0x1p-1024), A1: complex(0, -1)}}, {three{trial.Greatest}, three{complex(1, 1)}, api.Section{B0: complex(0x1.fffffffffffffp1022, -0x1.fffffffffffffp1022)}},
		// a[0] with a nought in one part.
		{three{1, complex(0, 1), 0}, three{complex(minus, 2), 2, 0}, api.Section{B0: complex(0, -0.5), B1: 0.5, A1: complex(0, -1)}}, {three{complex(0, tiny)}, three{complex(0, tiny), complex(tiny, 0), complex(0, -tiny)}, api.Section{B0: 1, A1: complex(0, -1), A2: -1}},
	} {
		s, e := biquad.Quotient(c.b, c.a)
		is(t, s, e, c.want, api.OK, "P15.2: Quotient(%x, %x)", c.b, c.a)
	}
}

func TestQuotientsBeyondTheGreatest(t *testing.T) {
	most := complex(trial.Greatest, 0)
	for _, c := range [][2]three{
		{{most}, {0.5}}, {{0, most}, {0.5}}, {{0, 0, most}, {0.5}}, {{}, {0.5, most}}, {{}, {0.5, 0, most}}, {{complex(0, trial.Greatest)}, {complex(0, 0.5)}}, {{0, complex(1, -trial.Greatest)}, {0.5}}, {{1}, {complex(0, trial.Least)}}, {{1}, {complex(0x1p-1024, trial.Least)}}, {{}, {0x1p-1024, 0, 1}}, {{1, 2, 3}, {complex(1-0x1p-53, 0), most}},
	} {
		s, e := biquad.Quotient(c[0], c[1])
		is(t, s, e, api.Section{}, api.ErrOver, "P15.2: Quotient(%x, %x)", c[0], c[1])
	}
}

func TestQuotientByNought(t *testing.T) {
	for _, nought := range trial.Noughts() {
		for _, b := range []three{{}, {1, 2, 3}, {trial.Greatest}, {complex(nan, 0)}, {0, complex(0, infinity)}, {0, 0, complex(nan, -infinity)}} {
			for _, a := range []three{{}, {0, 1, 1}, {0, complex(nan, 1)}, {0, 1, complex(1, -infinity)}} {
				a[0] = nought
				s, e := biquad.Quotient(b, a)
				is(t, s, e, api.Section{}, api.ErrZero, "Errors: Quotient(%x, %x)", b, a)
			}
		}
	}
}

func TestQuotientsThatAreNotFinite(t *testing.T) {
	for _, bad := range append(trial.Endless(), complex(nan, minus), complex(0, nan), complex(minus, infinity)) {
		for place := range 6 {
			// Beside it one that goes beyond the greatest.
			for _, c := range [][2]three{{{1, 2, 3}, {4, 5, 6}}, {{trial.Greatest, trial.Greatest, trial.Greatest}, {0.5, trial.Greatest, trial.Greatest}}} {
				b, a := c[0], c[1]
				if place < 3 {
					b[place] = bad
				} else {
					a[place-3] = bad
				}
				s, e := biquad.Quotient(b, a)
				is(t, s, e, api.Section{}, api.ErrNaN, "Errors: Quotient(%x, %x)", b, a)
			}
		}
	}
}

func TestQuotientsAreRoundedOnce(t *testing.T) {
	mix := trial.Mixer(152)
	kinds := []func(n int) []complex128{mix.Few, mix.FiniteNumbers, func(n int) []complex128 { return mix.Numbers(n, mix.Middle) }}
	beyond, unlike := 0, 0
	for range 4000 {
		b, a := three(kinds[mix.Below(len(kinds))](3)), three(kinds[mix.Below(len(kinds))](3))
		want, fault := api.Section{}, api.ErrZero
		if a[0] != 0 {
			over := func(z complex128) trial.Complex { return trial.Exactly(z).Quo(trial.Exactly(a[0])) }
			want, fault = nearest(over(b[0]), over(b[1]), over(b[2]), over(a[1]), over(a[2]))
		}
		s, e := biquad.Quotient(b, a)
		is(t, s, e, want, fault, "P15.2, P3: Quotient(%x, %x)", b, a)
		switch {
		case fault == api.ErrOver:
			beyond++
		case fault == api.OK && cplx.Div(b[1], a[0]) != s.B1:
			unlike++
		}
	}
	if beyond < 50 || unlike < 300 {
		t.Errorf("only %d quotients go beyond the greatest, and %d are not those of single steps", beyond, unlike)
	}
}
