package pair_test

import (
	"cmp"
	"math"
	"math/big"
	"slices"

	"quaver/api"
	"quaver/trial"
)

var (
	minus    = math.Copysign(0, -1)
	infinity = math.Inf(1)
	nan      = math.NaN()
)

// list is these numbers.
func list(numbers ...complex128) []complex128 {
	return numbers
}

// rank rises as the order of floats does, of which none is a NaN.
func rank(x float64) int64 {
	bits := int64(math.Float64bits(x))
	if bits < 0 {
		bits ^= math.MaxInt64
	}
	return bits
}

func order(a, b complex128) int {
	return cmp.Or(cmp.Compare(rank(real(a)), rank(real(b))), cmp.Compare(rank(imag(a)), rank(imag(b))))
}

// square is the square of the distance of a and z.
func square(a, z complex128) *big.Rat {
	return trial.Exactly(a).Sub(trial.Exactly(z)).Norm()
}

// chosen is the one of these places of a list that goes first by its distance to z, by the words of P14.1: all are sorted, those that are one stay in their order.
func chosen(numbers []complex128, places []int, z complex128, far bool) int {
	squares := make(map[int]*big.Rat)
	for _, i := range places {
		squares[i] = square(numbers[i], z)
	}
	sorted := slices.Clone(places)
	slices.SortStableFunc(sorted, func(i, j int) int {
		apart := squares[i].Cmp(squares[j])
		if far {
			apart = -apart
		}
		return cmp.Or(apart, order(numbers[i], numbers[j]))
	})
	return sorted[0]
}

// places are all places of a list.
func places(numbers []complex128) []int {
	var all []int
	for i := range numbers {
		all = append(all, i)
	}
	return all
}

// sameGroups: number by number, bit by bit.
func sameGroups(a, b []api.Group) bool {
	return slices.EqualFunc(a, b, func(g, h api.Group) bool {
		return trial.AlikeNumbers(g.Zeros, h.Zeros) && trial.AlikeNumbers(g.Poles, h.Poles)
	})
}

// apart are the numbers 1 + i, 1 + 2i .. 1 + ni: none is real, and none has its conjugate among them.
func apart(n int) []complex128 {
	var all []complex128
	for i := range n {
		all = append(all, complex(1, float64(i+1)))
	}
	return all
}
