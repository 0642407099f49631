package refl_test

import (
	"math"
	"math/big"
	"testing"

	"quaver/api"
	"quaver/refl"
	"quaver/trial"
)

// plain is the number x.
func plain(x *big.Rat) trial.Complex {
	return trial.Complex{Re: x, Im: new(big.Rat)}
}

// sum is all of these together.
func sum(list ...*big.Rat) *big.Rat {
	return trial.Value(trial.Sum(list...))
}

func TestNearAtTheEnds(t *testing.T) {
	minus := math.Copysign(0, -1)
	for _, c := range []struct {
		k    *big.Rat
		want float64
		over bool
	}{
		{trial.Up(1023), 0x1p1023, false}, {trial.Up(1024), 0, true}, {trial.Down(1024), 0, true}, {trial.Up(9000), 0, true},
		// The greatest float64, half a step beyond it, and next to that.
		{sum(trial.Up(1024), trial.Down(971)), trial.Greatest, false},
		{sum(trial.Up(1024), trial.Down(970)), 0, true},
		{sum(trial.Down(1024), trial.Up(970)), 0, true},
		{sum(trial.Up(1024), trial.Down(970), trial.Down(-900)), trial.Greatest, false},
		{sum(trial.Down(1024), trial.Up(970), trial.Up(-900)), -trial.Greatest, false},
		// Subnormal ones, and what is rounded to noughts.
		{trial.Up(-1074), trial.Least, false}, {trial.Down(-1075), minus, false}, {trial.Up(-1075), 0, false}, {trial.Down(-9000), minus, false},
		{sum(trial.Up(-1075), trial.Up(-3000)), trial.Least, false}, {sum(trial.Up(-1074), trial.Up(-1075)), 2 * trial.Least, false}, {sum(trial.Up(-1073), trial.Up(-1075)), 2 * trial.Least, false},
		{sum(trial.Up(-1022), trial.Down(-1075)), trial.LeastNormal, false},
		// Ties, and next to them.
		{sum(trial.Up(0), trial.Up(-53)), 1, false}, {sum(trial.Down(0), trial.Down(-52), trial.Down(-53)), -1 - 0x1p-51, false}, {sum(trial.Up(0), trial.Up(-53), trial.Up(-2000)), 1 + 0x1p-52, false}, {sum(trial.Up(0), trial.Up(-52), trial.Up(-53), trial.Down(-2000)), 1 + 0x1p-52, false},
		{sum(trial.Up(-1), trial.Down(-55)), 0.5, false}, {big.NewRat(1, 3), 1.0 / 3, false}, {new(big.Rat), 0, false},
	} {
		for _, k := range []trial.Complex{{Re: c.k, Im: big.NewRat(5, 1)}, {Re: big.NewRat(-5, 1), Im: c.k}} {
			// By itself, and under another number.
			for _, list := range [][]trial.Complex{{k}, {k, trial.Fraction(1, 2, 7)}, {trial.Fraction(0, 3, 1), k}} {
				p := grown(list)
				got, e := refl.Near(p)
				if c.over {
					if e != api.ErrOver || len(got) > 0 {
						t.Errorf("P12.5: Near of %v: %v, %d, want ErrOver", list, got, e)
					}
					continue
				}
				var want []complex128
				for _, z := range list {
					if z == k && k.Re == c.k {
						want = append(want, complex(c.want, 5))
					} else if z == k {
						want = append(want, complex(-5, c.want))
					} else {
						want = append(want, z.Near())
					}
				}
				if e != api.OK || !trial.AlikeNumbers(got, want) {
					t.Errorf("P12.5: Near of %v: %x, %d, want %x", list, got, e, want)
				}
			}
		}
	}
}

func TestNear(t *testing.T) {
	mix := trial.Mixer(4)
	for round := range 300 {
		p := mix.Poly(7, 1+round%3)
		if len(p) == 0 {
			continue
		}
		list, ok := numbers(p)
		fault := api.OK
		if !ok {
			fault = api.ErrUnstable
		}
		var want []complex128
		for _, k := range list {
			want = append(want, k.Near())
		}
		got, e := refl.Near(p)
		if e != fault || !trial.AlikeNumbers(got, want) {
			t.Fatalf("P12.5: Near(%v) = %v, %d, want %v, %d", p, got, e, want, fault)
		}
	}
}

func TestNearBeyondAndUnstable(t *testing.T) {
	far, one := plain(trial.Up(1100)), trial.Fraction(0, 1, 1)
	for _, c := range []struct {
		list []trial.Complex
		want api.Errno
	}{
		{[]trial.Complex{far}, api.ErrOver}, {[]trial.Complex{one}, api.ErrUnstable}, {[]trial.Complex{one, far}, api.ErrUnstable}, {[]trial.Complex{far, one}, api.ErrUnstable}, {[]trial.Complex{far, far}, api.ErrOver}, {[]trial.Complex{far, trial.Fraction(1, 0, 2), one, trial.Fraction(2, 0, 1)}, api.ErrUnstable},
	} {
		if got, e := refl.Near(grown(c.list)); e != c.want || len(got) > 0 {
			t.Errorf("P12.5: Near of %v: %v, %d, want %d", c.list, got, e, c.want)
		}
	}
	// Coefficients that are no great ones, with a number that is: 1 + k_2 is little.
	p := api.Poly{{Re: trial.Sum(trial.Down(0), trial.Up(-600)), Im: trial.Frac(0, 1)}, {Re: trial.Sum(trial.Up(600)), Im: trial.Frac(0, 1)}, trial.Whole(1, 0)}
	if got, e := refl.Near(p); e != api.ErrOver || len(got) > 0 {
		t.Errorf("P12.5: Near(%v) = %v, %d, want ErrOver", p, got, e)
	}
	p[1].Re = trial.Sum(trial.Up(300))
	if got, e := refl.Near(p); e != api.OK || !trial.AlikeNumbers(got, []complex128{0x1p900, -1}) {
		t.Errorf("P12.5: Near(%v) = %x, %d", p, got, e)
	}
	if list, e := refl.Near(trial.Reals(3)); len(list) > 0 || e != api.OK {
		t.Errorf("P12.5: Near of a constant: %v, %d", list, e)
	}
}
