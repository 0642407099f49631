package resp_test

import (
	"math/big"
	"slices"
	"testing"

	"quaver/api"
	"quaver/resp"
	"quaver/trial"
)

func TestExactExamples(t *testing.T) {
	third := trial.Fraction(1, 0, 3).Gauss()
	for _, c := range []struct {
		f    api.Filter
		z    api.Gauss
		want api.Gauss
	}{
		{of(2), trial.Whole(1, 0), trial.Whole(2, 0)}, {of(2), trial.Exactly(1e300).Gauss(), trial.Whole(2, 0)}, {of(complex(minus, 2)), third, trial.Whole(0, 2)}, {of(0), third, trial.Whole(0, 0)},
		{half(), trial.Whole(1, 0), trial.Whole(2, 0)}, {half(), trial.Whole(-1, 0), trial.Fraction(2, 0, 3).Gauss()}, {half(), third, trial.Whole(-2, 0)},
		{of(3, api.Section{B0: 1, B1: 1, A1: -0.5}), trial.Whole(0, 2), trial.Fraction(42, -36, 17).Gauss()},
		{of(1, api.Section{B0: 1, B1: 2, B2: 4}), trial.Whole(0, 2), trial.Whole(0, -1)}, {of(1, api.Section{B0: 1, A2: 3}), trial.Whole(0, 2), trial.Whole(4, 0)},
		{of(1, api.Section{B2: 1}), third, trial.Whole(9, 0)}, {of(1, api.Section{B0: 1, A2: 1}), third, trial.Fraction(1, 0, 10).Gauss()},
		{of(7, api.Section{B0: 1, B1: -3}), trial.Whole(3, 0), trial.Whole(0, 0)}, {of(7, api.Section{}), trial.Whole(3, 0), trial.Whole(0, 0)},
		// Numbers that are noughts of either sign are 0.
		{of(complex(1, minus), api.Section{B0: complex(1, minus), B1: complex(minus, minus), A1: complex(minus, 0)}), third, trial.Whole(1, 0)},
		// What the floats are, not what they stand for: 0.1 is a little more than 1/10.
		{of(0.1, api.Section{B0: 10}), third, trial.Exactly(0.1).Mul(trial.Exactly(10)).Gauss()},
		{of(greatest, api.Section{B0: greatest}), third, trial.Exactly(greatest).Mul(trial.Exactly(greatest)).Gauss()},
	} {
		if got := exactly(t, c.f, c.z); !trial.AlikeGauss(got, c.want) {
			t.Errorf("P22.2: Exact(%v, %v) = %v, want %v", c.f, c.z, got, c.want)
		}
	}
}

// places are exact numbers that are not nought, on the axes too.
func places(mix *trial.Mixer) []api.Gauss {
	g := mix.Gauss(2)
	nought := trial.Frac(0, 1)
	all := []api.Gauss{g, mix.Gauss(3), {Re: g.Re, Im: nought}, {Re: nought, Im: g.Im}, {Re: g.Re, Im: g.Re}, trial.Whole(1, 0), trial.Whole(0, -1), trial.Fraction(3, 4, 5).Gauss(), trial.Exactly(mix.FiniteNumbers(1)[0]).Gauss(), trial.Exactly(mix.Numbers(1, mix.Middle)[0]).Gauss()}
	return slices.DeleteFunc(all, trial.Nought)
}

func TestExactByAnotherRoad(t *testing.T) {
	mix := trial.Mixer(223)
	finite := func() float64 { return real(mix.FiniteNumbers(1)[0]) }
	few := func() float64 { return real(mix.Few(1)[0]) }
	poles := 0
	for _, c := range []struct {
		rounds, most int
		rule         func() float64
	}{{60, 4, mix.Middle}, {250, 4, few}, {25, 2, finite}} {
		for range c.rounds {
			f := mixed(&mix, c.most, c.rule)
			for _, z := range places(&mix) {
				want, ok := truly(f, z)
				got, e := resp.Exact(f, z)
				if ok != (e == api.OK) || !ok && (e != api.ErrZero || !trial.AlikeGauss(got, api.Gauss{})) || ok && !trial.AlikeGauss(got, want) {
					t.Fatalf("P22.2: Exact(%x, %v) = %v, %d, want %v, a pole: %v", f, z, got, e, want, !ok)
				}
				if !ok {
					poles++
				}
			}
		}
	}
	if poles < 20 {
		t.Errorf("%d poles", poles)
	}
	for _, n := range []int{5, 8, api.MaxSections} {
		f := mixed(&mix, 0, mix.Middle)
		for range n {
			f.Sections = append(f.Sections, mix.Section(mix.Middle))
		}
		z := trial.Fraction(3, 4, 7).Gauss()
		if want, _ := truly(f, z); !trial.AlikeGauss(exactly(t, f, z), want) {
			t.Errorf("P22.2: Exact of %d sections", n)
		}
	}
}

// Zeros and poles that meet are no pole of the sections that have none there, and zeros do not lift a pole.
func TestExactAtPoles(t *testing.T) {
	i, one, halfway, third := trial.Whole(0, 1), trial.Whole(1, 0), trial.Fraction(1, 0, 2).Gauss(), trial.Fraction(1, 0, 3).Gauss()
	plain := api.Section{B0: 1}
	for _, c := range []struct {
		name string
		s    api.Section
		z    api.Gauss
		want api.Errno
	}{
		{"1 - 1/(2z) at 1/2", api.Section{B0: 1, A1: -0.5}, halfway, api.ErrZero}, {"beside it", api.Section{B0: 1, A1: -0.5}, third, api.OK}, {"on the other side", api.Section{B0: 1, A1: 0.5}, halfway, api.OK},
		{"1 + 1/z^2 at i", api.Section{B0: 1, A2: 1}, i, api.ErrZero}, {"1 - 1/z^2 at i", api.Section{B0: 1, A2: -1}, i, api.OK}, {"1 - 1/z^2 at 1", api.Section{B0: 1, A2: -1}, one, api.ErrZero},
		{"1 - i/z at i", api.Section{B0: 1, A1: complex(0, -1)}, i, api.ErrZero}, {"1 - 2/z + 1/z^2 at 1", api.Section{B0: 1, A1: -2, A2: 1}, one, api.ErrZero},
		{"a zero at the pole", api.Section{B0: 1, B1: -0.5, A1: -0.5}, halfway, api.ErrZero}, {"noughts above the pole", api.Section{A1: -0.5}, halfway, api.ErrZero},
		{"the float nearest to 1/3 is not 1/3", api.Section{B0: 1, A1: -1.0 / 3}, third, api.OK}, {"but it is its own pole", api.Section{B0: 1, A1: -1.0 / 3}, trial.Exactly(1.0 / 3).Gauss(), api.ErrZero},
		{"the least number", api.Section{B0: 1, A1: -least}, trial.Exactly(least).Gauss(), api.ErrZero}, {"the greatest one", api.Section{B0: 1, A1: complex(0, -greatest)}, trial.Exactly(complex(0, greatest)).Gauss(), api.ErrZero},
		{"a NaN above a pole", api.Section{B1: complex(nan, 0), A1: -0.5}, halfway, api.ErrZero}, {"a NaN above", api.Section{B1: complex(nan, 0), A1: -0.5}, third, api.ErrNaN},
		{"A2 is infinite", api.Section{B0: 1, A1: -0.5, A2: complex(0, infinity)}, halfway, api.ErrNaN}, {"A1 is a NaN", api.Section{B0: 1, A1: complex(-0.5, nan)}, halfway, api.ErrNaN},
	} {
		for _, gain := range []complex128{1, 0} {
			for _, f := range []api.Filter{of(gain, c.s), of(gain, plain, c.s), of(gain, c.s, plain), of(gain, plain, c.s, plain)} {
				g, e := resp.Exact(f, c.z)
				var want api.Gauss
				if c.want == api.OK {
					want, _ = truly(f, c.z)
				}
				if e != c.want || !trial.AlikeGauss(g, want) {
					t.Errorf("P22.2: Exact, %s, %v: %v, %d, want %v, %d", c.name, f, g, e, want, c.want)
				}
			}
		}
	}
	// A pole is told ahead of whatever is not finite elsewhere.
	endless := api.Section{B0: complex(infinity, 0), A1: complex(nan, 0), A2: complex(0, -infinity)}
	for _, f := range []api.Filter{of(complex(nan, 0), half().Sections...), of(1, endless, half().Sections[0]), of(1, half().Sections[0], endless)} {
		if g, e := resp.Exact(f, halfway); e != api.ErrZero || !trial.AlikeGauss(g, api.Gauss{}) {
			t.Errorf("P22.2: Exact of %v at a pole: %v, %d", f, g, e)
		}
		if g, e := resp.Exact(f, one); e != api.ErrNaN || !trial.AlikeGauss(g, api.Gauss{}) {
			t.Errorf("P22.2: Exact of %v: %v, %d", f, g, e)
		}
	}
}

func TestExactBesideAt(t *testing.T) {
	// Powers of two are not rounded on their way, so the two tell the same.
	mix := trial.Mixer(224)
	power := func() complex128 { return []complex128{1, -1, 1i, -1i, 2, -0.5, 4i, -0.25i}[mix.Below(8)] }
	for range 300 {
		f := of(power(), api.Section{B0: power()}, api.Section{B1: power()}, api.Section{B2: power()})
		z := power()
		if got := exactly(t, f, trial.Exactly(z).Gauss()); !trial.AlikeGauss(got, trial.Exactly(at(t, f, z)).Gauss()) {
			t.Errorf("P22.2, P7: Exact(%v, %v) = %v, At %v", f, z, got, at(t, f, z))
		}
	}
	// Elsewhere what is rounded lies close to the true answer, and is seldom just that.
	near := trial.Up(-90)
	for range 100 {
		s := api.Section{B0: 1, B1: complex(mix.Middle()/0x1p20, 0.5), A1: 0.125, A2: complex(0, 0.25)}
		f := of(complex(0.3, 0.1), s, half().Sections[0])
		z := complex(0.6, 0.8)
		g := exactly(t, f, trial.Exactly(z).Gauss())
		size := trial.ValueGauss(g).Norm()
		way := trial.Value(far(t, at(t, f, z), g))
		if way.Sign() == 0 || way.Cmp(new(big.Rat).Mul(near, size)) > 0 {
			t.Errorf("P22.2, P7: At(%v, %v) = %v, far from the true %v", f, z, at(t, f, z), g)
		}
	}
	// Beyond the greatest number, and below the least one, only the true answer goes on.
	for _, x := range []complex128{greatest, least} {
		f := of(x, api.Section{B0: x}, api.Section{B0: 1, A1: x})
		if want, _ := truly(f, trial.Whole(1, 1)); !trial.AlikeGauss(exactly(t, f, trial.Whole(1, 1)), want) {
			t.Errorf("P22.2: Exact of %v", f)
		}
	}
}
