package lattice

import (
	"quaver/api"
	"quaver/binary"
	"quaver/numbers"
)

// mostSamples is how many samples Exact takes: each answer may be longer than the one ahead of it by two numbers' lengths.
const mostSamples = 128

// Exact: the true answers of a lattice, from rest.
func Exact(list []complex128, xs []complex128) ([]api.Gauss, api.Errno) {
	if len(xs) > mostSamples {
		return nil, api.ErrLong
	}
	if e := check(list); e != api.OK {
		return nil, e
	}
	if !numbers.Finite(xs...) {
		return nil, api.ErrNaN
	}
	return trueAnswers(list, xs), api.OK
}

// trueAnswers are the answers without rounding; all numbers are finite.
func trueAnswers(list, xs []complex128) []api.Gauss {
	// The answers soon have more limbs than gauss takes in, so they are kept as numbers of binary.
	less := func(f, k, b binary.Number) binary.Number { return f.Sub(k.Mul(b)) }
	more := func(b, k, f binary.Number) binary.Number { return b.Add(k.Conj().Mul(f)) }
	ks, back := make([]binary.Number, len(list)), make([]binary.Number, len(list))
	for i, k := range list {
		ks[i], back[i] = binary.Of(k), binary.Nought()
	}
	answers := make([]api.Gauss, len(xs))
	for i, x := range xs {
		answers[i] = step(ks, back, binary.Of(x), less, more).Gauss()
	}
	return answers
}
