package refl_test

import (
	"math/big"
	"slices"
	"testing"

	"quaver/api"
	"quaver/poly"
	"quaver/refl"
	"quaver/schur"
	"quaver/sturm"
	"quaver/trial"
)

// checkTells: does Tells tell of these roots whether all lie inside?
func checkTells(t *testing.T, list []trial.Complex) {
	t.Helper()
	p := trial.Lines(list...)
	if yes, e := refl.Tells(p); yes != within(list) || e != api.OK {
		t.Fatalf("P12.4: Tells of the roots %v: %v, %d", list, yes, e)
	}
}

func TestTellsOfEdges(t *testing.T) {
	inside := []trial.Complex{trial.Fraction(1, 1, 2), trial.Fraction(0, -2, 3), trial.Fraction(0, 0, 1)}
	for _, z := range append(units(), trial.Unit(1, 2), trial.Unit(-2, 3)) {
		in, out := z.Stretched(trial.Beside1(-1)), z.Stretched(trial.Beside1(1))
		for _, list := range [][]trial.Complex{{z}, {in}, {out}, {in, in}, {out, out}, {z, z}, {in, z}, {in, out}, {in, in.Mirror()}, {in, in.Conj()}, {z, z.Conj()}, times(in, 5), append(times(in, 4), out)} {
			checkTells(t, list)
			checkTells(t, append(slices.Clone(list), inside...))
			checkTells(t, append(slices.Clone(list), trial.Fraction(3, 1, 1)))
		}
	}
	for _, list := range [][]trial.Complex{nil, times(trial.Fraction(0, 0, 1), 24), times(trial.Fraction(-9, 0, 10), 24), times(trial.Fraction(1, 0, 1), 24), append(times(trial.Fraction(1, 2, 3), 23), trial.Fraction(3, 4, 5)), append(times(trial.Fraction(1, 2, 3), 23), trial.Fraction(4, 4, 5))} {
		checkTells(t, list)
	}
}

func TestTellsOfMany(t *testing.T) {
	mix := trial.Mixer(5)
	for round := range 300 {
		most := 8
		if round%30 == 0 {
			most = api.MaxRoots
		}
		list := mix.Places(1 + mix.Below(most))
		checkTells(t, list)
		// The mirror images of those that are not inside are, but for points of the circle.
		for i, z := range list {
			if !within(list[i : i+1]) {
				list[i] = z.Mirror()
			}
		}
		checkTells(t, list)
	}
}

func TestTellsOfRootsInACrowd(t *testing.T) {
	// What tells them is far behind the point, further than the coefficients are long.
	for _, n := range []int{60, 200} {
		step := new(big.Rat).Sub(big.NewRat(1, 1), trial.Up(-n))
		for _, z := range units() {
			near := z.Stretched(step)
			checkTells(t, times(near, 8))
			checkTells(t, append(times(near, 7), near.Mirror()))
			checkTells(t, append(times(near, 7), z))
		}
	}
}

func TestTellsOfFloats(t *testing.T) {
	mix := trial.Mixer(6)
	for round := range 40 {
		list := mix.Numbers(api.MaxRoots, func() float64 { return mix.Middle() / 64 })
		if round%2 == 0 {
			list = mix.Numbers(api.MaxRoots, func() float64 { return mix.Middle() * 0x1p-11 })
		}
		var roots []trial.Complex
		for _, z := range list {
			roots = append(roots, trial.Exactly(z))
		}
		checkTells(t, roots)
		// As it is rounded: the roots are others, and no one knows them.
		near, _ := poly.To(trial.Lines(roots...))
		p, e := poly.From(near)
		if e != api.OK || len(p) == 0 {
			t.Fatalf("poly.From(%v): %d", near, e)
		}
		agree(t, p)
	}
}

// agree: do the three roads tell the same of p?
func agree(t *testing.T, p api.Poly) {
	t.Helper()
	inside, on, outside, e := schur.Count(p)
	told, f := refl.Tells(p)
	if e != api.OK || f != api.OK || told != (inside == len(p)-1) {
		t.Fatalf("P5: of %v Count tells %d, %d, %d, %d, Tells %v, %d", p, inside, on, outside, e, told, f)
	}
	q, e := sturm.Line(p)
	above, _, _, f := sturm.Upper(q)
	if e != api.OK || f != api.OK || told != (above == len(p)-1) {
		t.Fatalf("P5: of %v Upper of its Line tells %d, %d, %d, Tells %v", p, above, e, f, told)
	}
	// From the last number down the signs of all 1 - |k|^2 are multiplied: each minus that this leaves stands for a root outside.
	list, e := refl.Down(p)
	if e == api.ErrUnstable && !told {
		return
	}
	sign, found := 1, 0
	for _, k := range slices.Backward(list) {
		sign *= big.NewRat(1, 1).Cmp(trial.ValueGauss(k).Norm())
		if sign < 0 {
			found++
		}
	}
	if e != api.OK || found != outside || on != 0 {
		t.Fatalf("P5: of %v Count tells %d, %d, %d, the numbers %v, %d, tell %d outside", p, inside, on, outside, list, e, found)
	}
}

func TestTheThreeRoadsAgree(t *testing.T) {
	mix := trial.Mixer(7)
	for round := range 300 {
		p := mix.Poly(9, 1+round%3)
		switch round % 3 {
		case 1:
			p = trial.Lines(mix.Places(mix.Below(9))...)
		case 2: // near the edge of what is stable: small numbers, the last one greater
			p = nil
			for range mix.Below(9) {
				p = append(p, trial.Whole(int64(mix.Below(5))-2, int64(mix.Below(5))-2))
			}
			p = append(p, trial.Whole(int64(1+mix.Below(5)), int64(mix.Below(5))))
		}
		if len(p) > 0 {
			agree(t, p)
		}
	}
	for _, p := range []api.Poly{trial.Sparse(24, 1, 0), trial.Sparse(24, -3, 4), trial.Reals(slices.Repeat([]int64{1}, 25)...), trial.Reals(append(slices.Repeat([]int64{1}, 24), 24)...), trial.Reals(append(slices.Repeat([]int64{1}, 24), 2)...)} {
		agree(t, p)
	}
}
