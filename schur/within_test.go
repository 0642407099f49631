package schur_test

import (
	"math/big"
	"testing"

	"quaver/api"
	"quaver/schur"
	"quaver/trial"
)

func TestWithinExamples(t *testing.T) {
	pair := trial.Lines(trial.Fraction(1, 0, 2), trial.Fraction(2, 0, 1))
	for _, c := range []struct {
		p    api.Poly
		r    api.Rat
		want int
		e    api.Errno
	}{
		{pair, trial.Frac(3, 1), 2, api.OK}, {pair, trial.Frac(2, 1), 1, api.OK}, {pair, trial.Frac(1, 2), 0, api.OK}, {pair, trial.Frac(1, 1), 1, api.OK}, {pair, trial.Sum(big.NewRat(1, 2), trial.Up(-2000)), 1, api.OK}, {pair, trial.Sum(big.NewRat(2, 1), trial.Down(-2000)), 1, api.OK}, {pair, trial.Sum(big.NewRat(2, 1), trial.Up(-2000)), 2, api.OK},
		{trial.Reals(1, 1), trial.Frac(0, 1), 0, api.ErrArg}, {nil, trial.Frac(-1, 1), 0, api.ErrArg}, {trial.Reals(1, 1), trial.Sum(trial.Down(-5000)), 0, api.ErrArg},
		{trial.Reals(4), trial.Frac(3, 1), 0, api.OK}, {trial.Reals(0, 0, 0, 4), trial.Sum(trial.Up(-9000)), 3, api.OK}, {trial.Reals(0, 0, 0, 4), trial.Sum(trial.Up(9000)), 3, api.OK},
		{trial.Reals(-2, 0, 1), trial.Frac(3, 2), 2, api.OK}, {trial.Reals(-2, 0, 1), trial.Frac(7, 5), 0, api.OK}, {trial.Sparse(24, 1, 0), trial.Frac(1, 1), 0, api.OK}, {trial.Sparse(24, 1, 0), trial.Sum(trial.Beside1(1)), 24, api.OK}, {trial.Sparse(24, 1, 0), trial.Sum(trial.Beside1(-1)), 0, api.OK},
		{trial.Lines(trial.Fraction(3, 4, 1), trial.Fraction(5, 12, 1)), trial.Frac(5, 1), 0, api.OK}, {trial.Lines(trial.Fraction(3, 4, 1), trial.Fraction(5, 12, 1)), trial.Frac(13, 1), 1, api.OK},
	} {
		if n, e := schur.Within(c.p, c.r); n != c.want || e != c.e {
			t.Errorf("P10.3: Within(%v, %v) = %d, %d, want %d, %d", c.p, c.r, n, e, c.want, c.e)
		}
	}
}

// size is a magnitude of a root that is rational, or one beside it.
func size(mix *trial.Mixer, list []trial.Complex) *big.Rat {
	r := big.NewRat(int64(1+mix.Below(40)), int64(1+mix.Below(9)))
	for _, z := range list {
		norm := z.Norm()
		root := new(big.Rat).SetFrac(new(big.Int).Sqrt(norm.Num()), new(big.Int).Sqrt(norm.Denom()))
		if root.Sign() > 0 && mix.Below(2) == 0 {
			r = root // of a rational magnitude itself
		}
	}
	if mix.Below(2) == 0 {
		r.Mul(r, trial.Beside1(int64(mix.Below(3)-1)))
	}
	return r
}

func TestWithinOfRoots(t *testing.T) {
	mix := trial.Mixer(11)
	met := 0
	for range 300 {
		list := mix.Places(1 + mix.Below(6))
		stretch := big.NewRat(int64(1+mix.Below(20)), int64(1+mix.Below(20)))
		for i := range list {
			list[i] = list[i].Stretched(stretch)
		}
		r := size(&mix, list)
		want := tally(list, r)
		met += want[1]
		if n, e := schur.Within(trial.Lines(list...), trial.Told(r)); n != want[0] || e != api.OK {
			t.Fatalf("P10.3: Within of the roots %v, %v: %d, %d, want %d", list, r, n, e, want[0])
		}
	}
	if met < 50 {
		t.Errorf("only %d roots were of just the magnitude", met)
	}
}

func TestWithinOfLongNumbers(t *testing.T) {
	// At MaxLimbs limbs over and under the line; n over itself and 2.
	full := trial.Ones(api.MaxLimbs, 1<<64-1)
	whole := api.Rat{Num: full, Den: []uint64{1}}
	small := api.Rat{Num: []uint64{1}, Den: full}
	even := append([]uint64{1<<64 - 2}, full[1:]...)
	above, below := api.Rat{Num: full, Den: even}, api.Rat{Num: even, Den: full} // beside 1
	spread := trial.Lines(trial.Fraction(0, 0, 1), trial.Fraction(3, 4, 5), trial.Fraction(1, 0, 1), trial.Fraction(0, 7, 1), trial.Fraction(0, 1, 7))
	for _, c := range []struct {
		p    api.Poly
		r    api.Rat
		want int
	}{
		{spread, whole, 5}, {spread, small, 1}, {spread, above, 4}, {spread, below, 2}, {trial.Sparse(24, 0, 1), above, 24}, {trial.Sparse(24, 0, 1), below, 0}, {trial.Sparse(24, -2, 0), whole, 24},
		{trial.Lines(trial.ValueGauss(api.Gauss{Re: whole, Im: trial.Frac(0, 1)})), whole, 0},
		{trial.Lines(trial.ValueGauss(api.Gauss{Re: above, Im: trial.Frac(0, 1)}), trial.Fraction(0, 1, 1), trial.Fraction(0, 0, 1)), above, 2},
		{trial.Lines(trial.ValueGauss(api.Gauss{Re: below, Im: trial.Frac(0, 1)}), trial.Fraction(0, 1, 1), trial.Fraction(0, 0, 1)), above, 3},
	} {
		if n, e := schur.Within(c.p, c.r); n != c.want || e != api.OK {
			t.Errorf("P10.3: Within of degree %d and a long number: %d, %d, want %d", len(c.p)-1, n, e, c.want)
		}
	}
}

func TestLongCoefficients(t *testing.T) {
	full := trial.Ones(api.MaxLimbs, 1<<64-1)
	whole := api.Gauss{Re: api.Rat{Num: full, Den: []uint64{1}}, Im: api.Rat{Neg: true, Num: []uint64{1}, Den: full}}
	list := make(api.Poly, api.MaxRoots+1)
	for i := range list {
		list[i] = whole
	}
	if got, e := count(list); got != [3]int{0, 24, 0} || e != api.OK {
		t.Errorf("P10.1: Count of 25 long coefficients: %v, %d", got, e)
	}
	list[0] = trial.Whole(1, 0)
	if got, e := count(list); got[0]+got[2] != 24 || got[1] != 0 || e != api.OK {
		t.Errorf("P10.1: Count of 24 long coefficients and a short one: %v, %d", got, e)
	}
	one := trial.Whole(1, 0)
	for _, c := range []struct {
		p    api.Poly
		want [3]int
	}{{api.Poly{whole, one}, [3]int{0, 0, 1}}, {api.Poly{one, whole}, [3]int{1, 0, 0}}, {api.Poly{whole, whole}, [3]int{0, 1, 0}}, {api.Poly{whole}, [3]int{}}} {
		if got, e := count(c.p); got != c.want || e != api.OK {
			t.Errorf("P10.1: Count at MaxLimbs: %v, %d, want %v", got, e, c.want)
		}
	}
}
