package bilin_test

import (
	"math"
	"testing"

	"quaver/api"
	"quaver/bilin"
	"quaver/trial"
)

// spun is p(z / u), word by word.
func spun(p api.Poly, u api.Gauss) api.Poly {
	var all trial.Line
	for i, c := range trial.ValuePoly(p) {
		all = append(all, c.Quo(number(trial.ValueGauss(u), i)))
	}
	return all.Poly()
}

func TestSpinExamples(t *testing.T) {
	i := trial.Whole(0, 1)
	for _, c := range []struct {
		p    api.Poly
		u    api.Gauss
		want api.Poly
	}{
		{trial.Reals(-1, 1), i, api.Poly{trial.Whole(-1, 0), trial.Whole(0, -1)}}, {trial.Reals(1, 1, 1, 1, 1), i, api.Poly{trial.Whole(1, 0), trial.Whole(0, -1), trial.Whole(-1, 0), i, trial.Whole(1, 0)}},
		{trial.Reals(1, 2, 4), trial.Whole(2, 0), trial.Reals(1, 1, 1)}, {trial.Reals(3, 1), trial.Fraction(1, 0, 5).Gauss(), trial.Reals(3, 5)}, {trial.Reals(0, 0, 2), trial.Whole(1, 1), api.Poly{trial.Whole(0, 0), trial.Whole(0, 0), trial.Whole(0, -1)}},
		{trial.Reals(7), trial.Whole(3, -2), trial.Reals(7)}, {trial.Reals(1, 1), trial.Whole(1, 0), trial.Reals(1, 1)}, {nil, i, nil}, {api.Poly{}, trial.Whole(2, 0), nil},
	} {
		got, e := bilin.Spin(c.p, c.u)
		is(t, "P23.4: Spin", got, e, c.want)
	}
}

func TestSpinByAnotherRoad(t *testing.T) {
	mix := trial.Mixer(248)
	for round := range 600 {
		p, u := mix.Poly(7, 1+round%2), mix.Gauss(1+round%2)
		switch mix.Below(6) {
		case 0:
			u.Im = trial.Frac(0, 1)
		case 1:
			u.Re = trial.Frac(0, 1)
		case 2: // divisors in common with coefficients
			u = trial.Fraction(int64(mix.Below(13)-6), int64(mix.Below(13)-6), int64(1+mix.Below(6))).Gauss()
		case 3:
			u = trial.Unit(int64(mix.Below(7)-3), int64(1+mix.Below(5))).Gauss()
		}
		if trial.Nought(u) {
			continue
		}
		got, e := bilin.Spin(p, u)
		is(t, "P23.4: Spin", got, e, spun(p, u))
	}
	for _, u := range []api.Gauss{trial.Whole(1, 1), trial.Whole(-2, 0), trial.Fraction(3, -4, 5).Gauss(), trial.Fraction(2, 6, 3).Gauss()} {
		got, e := bilin.Spin(dense(api.MaxDegree), u)
		is(t, "P23.4: Spin at MaxDegree", got, e, spun(dense(api.MaxDegree), u))
	}
}

func TestSpinTurnsRoots(t *testing.T) {
	mix := trial.Mixer(249)
	for range 100 {
		u := trial.Fraction(int64(1+mix.Below(5)), int64(mix.Below(9)-4), int64(1+mix.Below(4)))
		roots := mix.Places(mix.Below(6))
		var turned []trial.Complex
		for _, r := range roots {
			turned = append(turned, r.Mul(u))
		}
		// The last coefficient is 1 over u^n then.
		got, e := bilin.Spin(trial.Lines(roots...), u.Gauss())
		is(t, "P23.4: Spin", got, e, times(trial.Lines(turned...), whole(1, 0).Quo(number(u, len(roots)))))
	}
}

func TestComb(t *testing.T) {
	for _, c := range []struct {
		p    api.Poly
		m    int
		want api.Poly
	}{
		{trial.Reals(-1, 1), 3, trial.Reals(-1, 0, 0, 1)}, {trial.Reals(-1, 1), 1, trial.Reals(-1, 1)}, {trial.Reals(1, 2, 3), 2, trial.Reals(1, 0, 2, 0, 3)}, {trial.Reals(0, 0, 5), 2, trial.Reals(0, 0, 0, 0, 5)},
		{trial.Reals(7), 1000, trial.Reals(7)}, {trial.Reals(7), math.MaxInt, trial.Reals(7)}, {nil, 1, nil}, {nil, math.MaxInt, nil}, {api.Poly{}, 65, nil},
	} {
		got, e := bilin.Comb(c.p, c.m)
		is(t, "P23.4: Comb", got, e, c.want)
	}
	for degree := 1; degree <= api.MaxDegree; degree++ {
		p := dense(degree)
		for m := 1; m <= api.MaxDegree+2; m++ {
			got, e := bilin.Comb(p, m)
			if degree*m > api.MaxDegree {
				fails(t, "P23.4: Comb", got, e, api.ErrLong)
				continue
			}
			if e != api.OK || len(got) != degree*m+1 {
				t.Fatalf("P23.4: Comb of the degree %d by %d: %d places, %d", degree, m, len(got), e)
			}
			for i, c := range got {
				want := trial.Whole(0, 0)
				if i%m == 0 {
					want = p[i/m]
				}
				if !trial.AlikeGauss(c, want) {
					t.Fatalf("P23.4: Comb of the degree %d by %d has %v at %d, want %v", degree, m, c, i, want)
				}
			}
		}
		// A product that wraps round is above MaxDegree all the same.
		for _, m := range []int{math.MaxInt, math.MaxInt/2 + 1, math.MaxInt/degree - 1, 1 << 62, 1 << 58, 1 << 32} {
			got, e := bilin.Comb(p, m)
			fails(t, "P23.4: Comb", got, e, api.ErrLong)
		}
	}
}

func TestFlip(t *testing.T) {
	for _, c := range []struct{ p, want api.Poly }{
		{trial.Reals(1, 1), trial.Reals(1, -1)}, {trial.Reals(1, 1, 0, 2), trial.Reals(1, -1, 0, -2)}, {trial.Reals(0, 0, -3), trial.Reals(0, 0, -3)}, {trial.Reals(5), trial.Reals(5)}, {trial.Reals(0, 0, 0, -1), trial.Reals(0, 0, 0, 1)}, {nil, nil}, {api.Poly{}, nil},
		{api.Poly{trial.Whole(1, 2), trial.Whole(0, -3), trial.Whole(-1, 0), trial.Whole(2, 1)}, api.Poly{trial.Whole(1, 2), trial.Whole(0, 3), trial.Whole(-1, 0), trial.Whole(-2, -1)}},
	} {
		got, e := bilin.Flip(c.p)
		is(t, "P23.4: Flip", got, e, c.want)
	}
	mix := trial.Mixer(250)
	for range 200 {
		p := mix.Poly(10, 2)
		got, e := bilin.Flip(p)
		is(t, "P23.4: Flip", got, e, spun(p, trial.Whole(-1, 0)))
		again, e := bilin.Flip(got)
		is(t, "P23.4: Flip, twice", again, e, p)
	}
	got, e := bilin.Flip(dense(api.MaxDegree))
	is(t, "P23.4: Flip at MaxDegree", got, e, spun(dense(api.MaxDegree), trial.Whole(-1, 0)))
}
