package schur_test

import (
	"math/big"
	"slices"

	"quaver/api"
	"quaver/schur"
	"quaver/trial"
)

// tally is how many roots lie inside, on and outside the circle of the radius r, told by the roots themselves.
func tally(list []trial.Complex, r *big.Rat) [3]int {
	var found [3]int
	for _, z := range list {
		found[1+z.Norm().Cmp(new(big.Rat).Mul(r, r))]++
	}
	return found
}

// count is what Count tells, and the error.
func count(p api.Poly) ([3]int, api.Errno) {
	a, b, c, e := schur.Count(p)
	return [3]int{a, b, c}, e
}

// plain is the number x.
func plain(x *big.Rat) trial.Complex {
	return trial.Complex{Re: x, Im: new(big.Rat)}
}

// times is z, n times.
func times(z trial.Complex, n int) []trial.Complex {
	return slices.Repeat([]trial.Complex{z}, n)
}

// calls: every call of a polynomial alone, Within with the radius 1. What is answered beside the error is a list of counts.
func calls() map[string]func(p api.Poly) ([]int, api.Errno) {
	return map[string]func(p api.Poly) ([]int, api.Errno){
		"Count": func(p api.Poly) ([]int, api.Errno) {
			a, b, c, e := schur.Count(p)
			return []int{a, b, c}, e
		},
		"Stable": func(p api.Poly) ([]int, api.Errno) {
			yes, e := schur.Stable(p)
			if yes {
				return []int{1}, e
			}
			return []int{0}, e
		},
		"Within": func(p api.Poly) ([]int, api.Errno) { return within(p, trial.Frac(1, 1)) },
	}
}

func within(p api.Poly, r api.Rat) ([]int, api.Errno) {
	n, e := schur.Within(p, r)
	return []int{n}, e
}

// fault is the error of a call, or -1, where another result beside it is not its zero value.
func fault(list []int, e api.Errno) api.Errno {
	for _, n := range list {
		if e != api.OK && n != 0 {
			return -1
		}
	}
	return e
}
