package bilin_test

import (
	"math/big"
	"testing"

	"quaver/api"
	"quaver/bilin"
	"quaver/circle"
	"quaver/trial"
)

func TestPointExamples(t *testing.T) {
	half := trial.Frac(1, 2)
	for _, c := range []struct {
		s    api.Gauss
		t    api.Rat
		want api.Gauss
		e    api.Errno
	}{
		{trial.Whole(0, 0), one(), trial.Whole(1, 0), api.OK}, {trial.Whole(-1, 0), one(), trial.Whole(0, 0), api.OK}, {trial.Whole(1, 0), one(), api.Gauss{}, api.ErrZero}, {trial.Whole(0, 1), one(), trial.Whole(0, 1), api.OK}, {trial.Whole(0, -1), one(), trial.Whole(0, -1), api.OK}, {trial.Whole(3, 0), one(), trial.Whole(-2, 0), api.OK},
		{trial.Whole(2, 0), half, api.Gauss{}, api.ErrZero}, {trial.Whole(-2, 0), half, trial.Whole(0, 0), api.OK}, {trial.Whole(1, 0), half, trial.Whole(3, 0), api.OK}, {trial.Whole(0, 1), half, trial.Fraction(3, 4, 5).Gauss(), api.OK}, {trial.Whole(2, 1), half, trial.Whole(-1, 4), api.OK},
		{rational(trial.Frac(5, 7)), trial.Frac(7, 5), api.Gauss{}, api.ErrZero}, {rational(trial.Frac(-5, 7)), trial.Frac(7, 5), trial.Whole(0, 0), api.OK}, {api.Gauss{Re: trial.Frac(5, 7), Im: trial.Frac(1, 7)}, trial.Frac(7, 5), trial.Whole(-1, 10), api.OK},
		{trial.Whole(0, 0), trial.Frac(7, 5), trial.Whole(1, 0), api.OK},
	} {
		if got, e := bilin.Point(c.s, c.t); e != c.e || !trial.AlikeGauss(got, c.want) {
			t.Errorf("P23.3: Point(%v, %v) = %v, %d, want %v, %d", c.s, c.t, got, e, c.want, c.e)
		}
	}
}

func TestPointByAnotherRoad(t *testing.T) {
	mix := trial.Mixer(246)
	for round := range 1500 {
		s, x := mix.Gauss(1+round%3), tangent(&mix, 1+round%2)
		switch mix.Below(5) {
		case 0:
			s.Im = trial.Frac(0, 1)
		case 1:
			s.Re = trial.Frac(0, 1)
		case 2: // next to 1/t, or at it
			s.Re = trial.Told(new(big.Rat).Inv(trial.Value(x)))
		}
		ts := trial.ValueGauss(s).Mul(trial.ValueGauss(rational(x)))
		below := whole(1, 0).Sub(ts)
		want, fault := api.Gauss{}, api.ErrZero
		if !below.Nought() {
			want, fault = whole(1, 0).Add(ts).Quo(below).Gauss(), api.OK
		}
		if got, e := bilin.Point(s, x); e != fault || !trial.AlikeGauss(got, want) {
			t.Fatalf("P23.3: Point(%v, %v) = %v, %d, want %v, %d", s, x, got, e, want, fault)
		}
	}
}

func TestPointsOfTheHalves(t *testing.T) {
	mix := trial.Mixer(247)
	for range 500 {
		s, x := mix.Gauss(2), tangent(&mix, 2)
		z, e := bilin.Point(s, x)
		if e == api.ErrZero {
			continue
		}
		way := trial.ValueGauss(z).Norm().Cmp(big.NewRat(1, 1))
		if want := trial.Value(s.Re).Sign(); e != api.OK || way != want {
			t.Fatalf("P23.5: Point(%v, %v), %d, lies at %d to the circle, want %d", s, x, e, way, want)
		}
		// On the imaginary line it is the point of the circle that has the tangent there.
		s.Re = trial.Frac(0, 1)
		z, e = bilin.Point(s, x)
		u, f := circle.Point(trial.Told(new(big.Rat).Mul(trial.Value(s.Im), trial.Value(x))))
		if e != api.OK || f != api.OK || !trial.AlikeGauss(z, u) {
			t.Fatalf("P23.5: Point(%v, %v) = %v, %d, want %v", s, x, z, e, u)
		}
	}
}
