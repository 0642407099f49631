package run

import (
	"quaver/api"
	"quaver/binary"
	"quaver/numbers"
)

// mostSamples is how many samples Exact takes: each answer may be longer than the one ahead of it by a coefficient's length.
const mostSamples = 256

// Exact: the true answers, from rest.
func Exact(s api.Section, list []complex128) ([]api.Gauss, api.Errno) {
	switch {
	case len(list) > mostSamples:
		return nil, api.ErrLong
	case !numbers.Finite(numbers.Coefficients(s)...) || !numbers.Finite(list...):
		return nil, api.ErrNaN
	}
	return trueAnswers(s, list), api.OK
}

// trueAnswers are the answers without rounding; all numbers are finite.
func trueAnswers(s api.Section, list []complex128) []api.Gauss {
	// The answers soon have more limbs than gauss takes in, so they are kept as numbers of binary.
	b0, b1, b2 := binary.Of(s.B0), binary.Of(s.B1), binary.Of(s.B2)
	a1, a2 := binary.Of(s.A1), binary.Of(s.A2)
	x1, x2, y1, y2 := binary.Nought(), binary.Nought(), binary.Nought(), binary.Nought()
	answers := make([]api.Gauss, len(list))
	for i, sample := range list {
		x := binary.Of(sample)
		y := b0.Mul(x).Add(b1.Mul(x1)).Add(b2.Mul(x2)).Sub(a1.Mul(y1)).Sub(a2.Mul(y2))
		answers[i] = y.Gauss()
		x1, x2, y1, y2 = x, x1, y, y1
	}
	return answers
}
