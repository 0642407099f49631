package sturm_test

import (
	"slices"
	"testing"

	"quaver/api"
	"quaver/schur"
	"quaver/sturm"
	"quaver/trial"
)

// agree: do the two roads tell the same of p? The line's x above the real line are the z inside the circle, as x is i (1 - z) / (1 + z).
func agree(t *testing.T, p api.Poly) {
	t.Helper()
	inside, on, outside, e := schur.Count(p)
	if e != api.OK || inside+on+outside != len(p)-1 {
		t.Fatalf("P5: Count(%v) = %d, %d, %d, %d", p, inside, on, outside, e)
	}
	q, e := sturm.Line(p)
	if e != api.OK {
		t.Fatalf("P5: Line(%v): %d", p, e)
	}
	got, e := upper(q)
	got[1] += len(p) - len(q) // -1
	if e != api.OK || got != [3]int{inside, on, outside} {
		t.Fatalf("P5: of %v Count tells %d, %d, %d, Upper of its Line, with -1, %v, %d", p, inside, on, outside, got, e)
	}
	n, e := sturm.OnCircle(p)
	if e != api.OK || n > on || (n == 0) != (on == 0) {
		t.Fatalf("P5: of %v Count tells %d on the circle, OnCircle %d, %d", p, on, n, e)
	}
}

func TestTheTwoRoadsAgree(t *testing.T) {
	mix := trial.Mixer(21)
	for round := range 200 {
		p := mix.Poly(9, 1+round%3)
		switch {
		case round%4 == 1: // roots with their mirror images
			star := slices.Clone(trial.ValuePoly(p))
			for i, c := range star {
				star[i] = c.Conj()
			}
			slices.Reverse(star)
			p = trial.Multiplied(p, star.Poly(), trial.Reals(1, 1, 1))
		case round%4 == 2:
			p = trial.Lines(mix.Places(mix.Below(9))...)
		case round%4 == 3: // small coefficients, of which many have roots on the circle
			p = nil
			for range 2 + mix.Below(8) {
				p = append(p, trial.Whole(int64(mix.Below(3))-1, int64(mix.Below(5)/3)))
			}
			p = trial.ValuePoly(p).Poly()
		}
		if len(p) > 0 {
			agree(t, p)
		}
	}
	for _, p := range []api.Poly{trial.Sparse(24, 1, 0), trial.Sparse(24, -3, 4), trial.Sparse(23, 1, 0), trial.Reals(slices.Repeat([]int64{1}, 25)...), trial.Lines(times(trial.Fraction(-1, 0, 1), 24)...)} {
		agree(t, p)
	}
}

func TestFloatsAgree(t *testing.T) {
	mix := trial.Mixer(22)
	for range 5 {
		var list []trial.Complex
		for range api.MaxRoots {
			list = append(list, trial.Complex{Re: trial.True(mix.Middle()), Im: trial.True(mix.Middle())})
		}
		agree(t, trial.Lines(list...))
	}
}
