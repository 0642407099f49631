package bilin_test

import (
	"testing"

	"quaver/api"
	"quaver/bilin"
	"quaver/poly"
	"quaver/schur"
	"quaver/trial"
)

func TestMapExamples(t *testing.T) {
	for _, c := range []struct {
		p    api.Poly
		n    int
		t    api.Rat
		want api.Poly
	}{
		{trial.Reals(1, 1), 1, one(), trial.Reals(0, 2)}, {trial.Reals(0, 1), 1, one(), trial.Reals(-1, 1)}, {trial.Reals(1), 2, one(), trial.Reals(1, 2, 1)}, {trial.Reals(5), 0, one(), trial.Reals(5)},
		{trial.Reals(-1, 1), 1, one(), trial.Reals(-2)}, // the degree is below n
		{trial.Reals(0, 0, 1), 2, one(), trial.Reals(1, -2, 1)}, {trial.Reals(0, 1), 2, one(), trial.Reals(-1, 0, 1)}, {trial.Reals(-1, 0, 1), 2, one(), trial.Reals(0, -4)},
		{trial.Reals(0, 1), 1, trial.Frac(1, 3), trial.Reals(-3, 3)}, {trial.Reals(1, 1), 1, trial.Frac(2, 1), api.Poly{trial.Fraction(1, 0, 2).Gauss(), trial.Fraction(3, 0, 2).Gauss()}}, {trial.Reals(2, 0, 4), 2, trial.Frac(2, 1), trial.Reals(3, 2, 3)},
		{api.Poly{trial.Whole(0, 1), trial.Whole(2, 0)}, 1, one(), api.Poly{trial.Whole(-2, 1), trial.Whole(2, 1)}},
		{nil, 0, one(), nil}, {nil, 24, trial.Frac(5, 7), nil}, {api.Poly{}, 3, one(), nil},
	} {
		got, e := bilin.Map(c.p, c.n, c.t)
		is(t, "P23.1: Map", got, e, c.want)
	}
}

func TestBackExamples(t *testing.T) {
	for _, c := range []struct {
		p    api.Poly
		n    int
		t    api.Rat
		want api.Poly
	}{
		{trial.Reals(0, 1), 1, one(), trial.Reals(1, 1)}, {trial.Reals(1, 1), 1, one(), trial.Reals(2)}, {trial.Reals(-1, 1), 1, one(), trial.Reals(0, 2)}, {trial.Reals(1), 2, one(), trial.Reals(1, -2, 1)}, {trial.Reals(5), 0, one(), trial.Reals(5)},
		{trial.Reals(0, 1), 2, one(), trial.Reals(1, 0, -1)}, {trial.Reals(0, 1), 1, trial.Frac(1, 2), api.Poly{trial.Whole(1, 0), trial.Fraction(1, 0, 2).Gauss()}}, {trial.Reals(0, 0, 1), 2, trial.Frac(3, 1), trial.Reals(1, 6, 9)},
		{api.Poly{trial.Whole(0, 1), trial.Whole(2, 0)}, 1, one(), api.Poly{trial.Whole(2, 1), trial.Whole(2, -1)}},
		{nil, 0, one(), nil}, {nil, 24, trial.Frac(5, 7), nil}, {api.Poly{}, 3, one(), nil},
	} {
		got, e := bilin.Back(c.p, c.n, c.t)
		is(t, "P23.2: Back", got, e, c.want)
	}
}

func TestByAnotherRoad(t *testing.T) {
	mix := trial.Mixer(241)
	for round := range 400 {
		p := mix.Poly(9, 1+round%3)
		n := max(0, len(p)-1) + mix.Below(5)
		x := tangent(&mix, 1+round%2)
		got, e := bilin.Map(p, n, x)
		is(t, "P23.1: Map", got, e, mapped(p, n, x))
		got, e = bilin.Back(p, n, x)
		is(t, "P23.2: Back", got, e, backed(p, n, x))
		if t.Failed() {
			t.Fatalf("of %v, %d, %v", p, n, x)
		}
	}
}

// Up to the greatest degrees, where coefficients are dense and where few are there.
func TestAllDegrees(t *testing.T) {
	for n := range api.MaxRoots + 1 {
		for _, x := range []api.Rat{one(), trial.Frac(6, 35), trial.Frac(8, 1)} {
			for _, p := range []api.Poly{dense(n), dense(n / 2), trial.Sparse(max(n, 1), -3, 1)[:n+1], trial.Reals(1, 0, 12)[:min(n, 2)+1-n%2], nil} {
				if len(p) > 0 && trial.Nought(p[len(p)-1]) {
					p = p[:1]
				}
				got, e := bilin.Map(p, n, x)
				is(t, "P23.1: Map", got, e, mapped(p, n, x))
				got, e = bilin.Back(p, n, x)
				is(t, "P23.2: Back", got, e, backed(p, n, x))
			}
		}
	}
}

// Numerators and denominators with divisors in common with those of t, which go out again.
func TestLowestTerms(t *testing.T) {
	mix := trial.Mixer(242)
	small := func() int64 { return []int64{1, 2, 3, 4, 6, 9, 12, 18, 36, 30}[mix.Below(10)] }
	for range 400 {
		p := api.Poly{}
		for range 1 + mix.Below(7) {
			p = append(p, trial.Fraction(small()*int64(mix.Below(3)-1), small()*int64(mix.Below(3)-1), small()).Gauss())
		}
		p = append(p, trial.Fraction(small(), 0, small()).Gauss())
		n := len(p) - 1 + mix.Below(4)
		x := trial.Fraction(small(), 0, small()).Gauss().Re
		got, e := bilin.Map(p, n, x)
		is(t, "P23.1: Map", got, e, mapped(p, n, x))
		if got, e := bilin.Map(p, n, x); e != api.OK || !poly.Form(got) {
			t.Errorf("P23.1: Map(%v, %d, %v) is not in form: %d", p, n, x, e)
		}
		got, e = bilin.Back(p, n, x)
		is(t, "P23.2: Back", got, e, backed(p, n, x))
	}
}

func TestThereAndBack(t *testing.T) {
	mix := trial.Mixer(243)
	for range 150 {
		p := mix.Poly(12, 1)
		n := min(max(0, len(p)-1)+mix.Below(6), api.MaxRoots)
		x := tangent(&mix, 1)
		want := times(p, number(whole(2, 0), n))
		there, e := bilin.Map(p, n, x)
		if e != api.OK {
			t.Fatalf("P23.1: Map(%v, %d, %v): %d", p, n, x, e)
		}
		back, e := bilin.Back(there, n, x)
		is(t, "P23.5: Back(Map)", back, e, want)
		there, e = bilin.Back(p, n, x)
		if e != api.OK {
			t.Fatalf("P23.2: Back(%v, %d, %v): %d", p, n, x, e)
		}
		back, e = bilin.Map(there, n, x)
		is(t, "P23.5: Map(Back)", back, e, want)
	}
}

func TestMapAtPoints(t *testing.T) {
	mix := trial.Mixer(244)
	for range 200 {
		p, s, x := mix.Poly(6, 1), mix.Gauss(1), tangent(&mix, 1)
		n := max(0, len(p)-1) + mix.Below(4)
		z, e := bilin.Point(s, x)
		if e == api.ErrZero {
			continue
		}
		q, f := bilin.Map(p, n, x)
		if e != api.OK || f != api.OK {
			t.Fatalf("P23.5: Point(%v, %v), Map(%v, %d): %d, %d", s, x, p, n, e, f)
		}
		less := whole(1, 0).Sub(trial.ValueGauss(rational(x)).Mul(trial.ValueGauss(s)))
		want := at(p, trial.ValueGauss(s)).Mul(number(whole(2, 0).Quo(less), n)).Gauss()
		if got := at(q, trial.ValueGauss(z)).Gauss(); !trial.AlikeGauss(got, want) {
			t.Fatalf("P23.5: Map(%v, %d, %v) at Point(%v) is %v, want %v", p, n, x, s, got, want)
		}
	}
}

// Roots left of the imaginary line come inside the circle, those on it onto the circle, those right of it outside; one at 1/t goes away.
func TestHalvesOfThePlane(t *testing.T) {
	mix := trial.Mixer(245)
	for range 60 {
		x := trial.Fraction(int64(1+mix.Below(3)), 0, 4).Gauss().Re
		if mix.Below(2) == 0 {
			x = one()
		}
		var roots []trial.Complex
		counts := [3]int{}
		for range mix.Below(7) {
			re, im := int64(mix.Below(5)-2), int64(mix.Below(5)-2)
			z := trial.Fraction(re, im, 3)
			switch {
			case mix.Below(6) == 0:
				roots = append(roots, whole(1, 0).Quo(trial.ValueGauss(rational(x)))) // 1/t
				continue
			case re < 0:
				counts[0]++
			case re == 0:
				counts[1]++
			case im == 0: // it may be 1/t
				continue
			default:
				counts[2]++
			}
			roots = append(roots, z)
		}
		p := trial.Lines(roots...)
		q, e := bilin.Map(p, len(p)-1, x)
		inside, on, outside, f := schur.Count(q)
		if e != api.OK || f != api.OK || [3]int{inside, on, outside} != counts {
			t.Fatalf("P23.5: roots %v, t %v: %d inside, %d on the circle, %d outside, %d, %d, want %v", roots, x, inside, on, outside, e, f, counts)
		}
	}
}
