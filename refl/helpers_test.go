package refl_test

import (
	"math/big"
	"slices"

	"quaver/api"
	"quaver/refl"
	"quaver/trial"
)

// star is the conjugates of a's coefficients in the other order, a taken as of degree m.
func star(a trial.Line, m int) trial.Line {
	list := make(trial.Line, m+1)
	for i := range list {
		list[i] = trial.Fraction(0, 0, 1)
		if m-i < len(a) {
			list[i] = a[m-i].Conj()
		}
	}
	return list
}

// numbers is what Down must answer, by the words of P12.1; false, if that is ErrUnstable.
func numbers(p api.Poly) ([]trial.Complex, bool) {
	a := trial.ValuePoly(p).Monic()
	list := make([]trial.Complex, len(a)-1)
	for m := len(a) - 1; m > 0; m-- {
		k := a[0]
		below := new(big.Rat).Sub(big.NewRat(1, 1), k.Norm())
		if below.Sign() == 0 {
			return nil, false
		}
		list[m-1] = k
		mirrored, next := star(a, m), make(trial.Line, m)
		for i := range next {
			next[i] = a[i+1].Sub(k.Mul(mirrored[i+1])).Stretched(new(big.Rat).Inv(below))
		}
		a = next
	}
	return list, true
}

// grown is what Up must answer, by the words of P12.2.
func grown(list []trial.Complex) api.Poly {
	a := trial.Line{trial.Fraction(1, 0, 1)}
	for m, k := range list {
		z := trial.Line{trial.Fraction(0, 0, 1), trial.Fraction(1, 0, 1)}
		a = z.Mul(a).Add(trial.Line{k}.Mul(star(a, m)))
	}
	return a.Poly()
}

// gausses is these numbers in form.
func gausses(list []trial.Complex) []api.Gauss {
	var made []api.Gauss
	for _, z := range list {
		made = append(made, z.Gauss())
	}
	return made
}

// alike: number by number, limb by limb.
func alike(got []api.Gauss, want []trial.Complex) bool {
	return slices.EqualFunc(got, gausses(want), trial.AlikeGauss)
}

// monic is p, which is not nought, over its last coefficient.
func monic(p api.Poly) api.Poly {
	return trial.ValuePoly(p).Monic().Poly()
}

// times is z, n times.
func times(z trial.Complex, n int) []trial.Complex {
	return slices.Repeat([]trial.Complex{z}, n)
}

// units are numbers of the magnitude 1.
func units() []trial.Complex {
	return []trial.Complex{trial.Fraction(1, 0, 1), trial.Fraction(-1, 0, 1), trial.Fraction(0, 1, 1), trial.Fraction(0, -1, 1), trial.Fraction(3, -4, 5), trial.Fraction(-5, 12, 13), trial.Unit(100, 7)}
}

// within: do all of these lie inside the circle?
func within(list []trial.Complex) bool {
	for _, z := range list {
		if z.Norm().Cmp(big.NewRat(1, 1)) >= 0 {
			return false
		}
	}
	return true
}

// long is a number of MaxLimbs limbs in three of its four lists.
func long() api.Gauss {
	full := trial.Ones(api.MaxLimbs, 1<<64-1)
	return api.Gauss{Re: api.Rat{Num: full, Den: []uint64{1}}, Im: api.Rat{Neg: true, Num: append(make([]uint64, api.MaxLimbs-1), 1), Den: full}}
}

// calls: every call of a list of numbers, as a polynomial or as reflection numbers. What is answered beside the error is told as numbers; a nought stands for a result of the zero value.
func calls() map[string]func(list []api.Gauss) ([]api.Gauss, api.Errno) {
	return map[string]func(list []api.Gauss) ([]api.Gauss, api.Errno){
		"Down": func(list []api.Gauss) ([]api.Gauss, api.Errno) { return refl.Down(list) },
		"Up": func(list []api.Gauss) ([]api.Gauss, api.Errno) {
			p, e := refl.Up(list)
			return p, e
		},
		"Tells": func(list []api.Gauss) ([]api.Gauss, api.Errno) {
			if yes, e := refl.Tells(list); !yes {
				return nil, e
			}
			return []api.Gauss{trial.Whole(1, 0)}, api.OK
		},
		"Near": func(list []api.Gauss) ([]api.Gauss, api.Errno) {
			near, e := refl.Near(list)
			var told []api.Gauss
			for _, z := range near {
				told = append(told, trial.Exactly(z).Gauss())
			}
			return told, e
		},
	}
}
