// Package numbers asks of complex128 and of lists of them what several layers ask alike.
package numbers

import (
	"quaver/api"
	"quaver/cplx"
	"quaver/gauss"
)

// Finite: are all of them finite?
func Finite(list ...complex128) bool {
	for _, a := range list {
		if !cplx.Finite(a) {
			return false
		}
	}
	return true
}

// Coefficients are a section's, those of the numerator first.
func Coefficients(s api.Section) []complex128 {
	return []complex128{s.B0, s.B1, s.B2, s.A1, s.A2}
}

// Paired: does each number stand in the list as often as its conjugate? A real one is its own.
func Paired(list []complex128) bool {
	often := make(map[complex128]int)
	for _, a := range list {
		often[a]++
	}
	for _, a := range list {
		if often[a] != often[cplx.Conj(a)] {
			return false
		}
	}
	return true
}

// Exact is the number that a, which is finite, is.
func Exact(a complex128) api.Gauss {
	g, _ := gauss.From(a)
	return g
}

// Exacts are the numbers that these, which are finite, are.
func Exacts(list []complex128) []api.Gauss {
	all := make([]api.Gauss, len(list))
	for i, a := range list {
		all[i] = Exact(a)
	}
	return all
}
