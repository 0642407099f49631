package resp_test

import (
	"testing"

	"quaver/api"
	"quaver/resp"
	"quaver/trial"
)

func TestFarExamples(t *testing.T) {
	nought := trial.Whole(0, 0)
	for _, c := range []struct {
		a    complex128
		g    api.Gauss
		want api.Rat
	}{
		{1, nought, trial.Frac(1, 1)}, {complex(3, 4), nought, trial.Frac(25, 1)}, {complex(3, 4), trial.Whole(0, 1), trial.Frac(18, 1)},
		{0, nought, trial.Frac(0, 1)}, {complex(minus, minus), nought, trial.Frac(0, 1)}, {complex(0.5, -0.25), trial.Fraction(2, -1, 4).Gauss(), trial.Frac(0, 1)},
		{-1, trial.Whole(1, 0), trial.Frac(4, 1)}, {0, trial.Fraction(1, 1, 3).Gauss(), trial.Frac(2, 9)}, {0.5, trial.Fraction(1, 2, 6).Gauss(), trial.Frac(2, 9)},
		{0, trial.Fraction(3, 4, 5).Gauss(), trial.Frac(1, 1)}, {1, api.Gauss{Re: trial.Frac(1, 2), Im: trial.Frac(1, 3)}, trial.Frac(13, 36)},
	} {
		if got := far(t, c.a, c.g); !trial.Alike(got, c.want) {
			t.Errorf("P22.5: Far(%v, %v) = %v, want %v", c.a, c.g, got, c.want)
		}
	}
}

func TestFarByAnotherRoad(t *testing.T) {
	mix := trial.Mixer(228)
	check := func(a complex128, g api.Gauss) {
		t.Helper()
		want := trial.Told(trial.Exactly(a).Sub(trial.ValueGauss(g)).Norm())
		if got := far(t, a, g); !trial.Alike(got, want) {
			t.Errorf("P22.5: Far(%x, %v) = %v, want %v", a, g, got, want)
		}
	}
	for range 300 {
		g := mix.Gauss(3)
		for _, a := range append(mix.FiniteNumbers(3), mix.Few(2)...) {
			check(a, g)
			check(a, api.Gauss{Re: g.Im, Im: g.Im})
			check(a, trial.Exactly(a).Gauss())
		}
	}
	for _, a := range append(trial.Signs(greatest, least), trial.Noughts()...) {
		check(a, trial.Fraction(1, 1, 7).Gauss())
		check(a, trial.Exactly(complex(least, greatest)).Gauss())
	}
}

func TestFarErrors(t *testing.T) {
	check := func(name string, a complex128, g api.Gauss, want api.Errno) {
		t.Helper()
		if r, e := resp.Far(a, g); e != want || !trial.Alike(r, api.Rat{}) {
			t.Errorf("P22.5: Far, %s, %v: %d, want %d", name, a, e, want)
		}
	}
	for _, a := range append(trial.Endless(), 1, complex(0, nan)) {
		for _, g := range trial.Either(trial.Long()) {
			check("too long", a, g, api.ErrLong)
		}
		for _, g := range trial.Either(trial.Wrong()) {
			check("not in form", a, g, api.ErrForm)
		}
		for _, r := range trial.Wrong() {
			check("one part too long, one not in form", a, api.Gauss{Re: r, Im: trial.Long()[0]}, api.ErrLong)
		}
		check("nothing at all", a, api.Gauss{}, api.ErrForm)
	}
	for _, a := range append(trial.Endless(), complex(0, nan), complex(infinity, 3)) {
		check("not finite", a, trial.Whole(0, 0), api.ErrNaN)
		check("not finite", a, trial.Fraction(1, 2, 3).Gauss(), api.ErrNaN)
	}
}
