package biquad_test

import (
	"math"
	"testing"

	"quaver/api"
	"quaver/biquad"
	"quaver/trial"
)

var (
	minus    = math.Copysign(0, -1)
	infinity = math.Inf(1)
	nan      = math.NaN()
)

// list is these numbers.
func list(numbers ...complex128) []complex128 {
	return numbers
}

// group is a group, its zeros first.
func group(zeros, poles []complex128) api.Group {
	return api.Group{Zeros: zeros, Poles: poles}
}

// is holds a section and an error against those that are wanted.
func is(t *testing.T, s api.Section, e api.Errno, want api.Section, fault api.Errno, name string, args ...any) {
	t.Helper()
	if e != fault || !trial.AlikeSection(s, want) {
		t.Errorf(name+": %x, %d, want %x, %d", append(args, s, e, want, fault)...)
	}
}

// nearest is the section of the numbers nearest to these, or ErrOver.
func nearest(exact ...trial.Complex) (api.Section, api.Errno) {
	var all []complex128
	for _, a := range exact {
		z := a.Near()
		if !trial.Finite(real(z)) || !trial.Finite(imag(z)) {
			return api.Section{}, api.ErrOver
		}
		all = append(all, z)
	}
	return trial.Section(all), api.OK
}

// shares are the coefficients of 1/z and 1/z^2 of the product of all 1 - root/z, by the words of P15.1.
func shares(roots []complex128) []trial.Complex {
	nought := trial.Fraction(0, 0, 1)
	sum, product := nought, nought
	for _, r := range roots {
		sum = sum.Sub(trial.Exactly(r))
	}
	if len(roots) == 2 {
		product = trial.Exactly(roots[0]).Mul(trial.Exactly(roots[1]))
	}
	return []trial.Complex{sum, product}
}

// stable tells by rational numbers alone: all roots of z^2 + az + b lie inside, if |b| < 1 and |a - b conj(a)| < 1 - |b|^2.
func stable(s api.Section) bool {
	a, b := trial.Exactly(s.A1), trial.Exactly(s.A2)
	room := trial.Fraction(1, 0, 1).Sub(b.Mul(b.Conj()))
	if room.Re.Sign() <= 0 {
		return false
	}
	return a.Sub(b.Mul(a.Conj())).Norm().Cmp(room.Norm()) < 0
}

// told is Stable's answer of a section that is finite.
func told(t *testing.T, s api.Section) bool {
	t.Helper()
	yes, e := biquad.Stable(s)
	if e != api.OK {
		t.Errorf("P15.4: Stable(%x): %d", s, e)
	}
	return yes
}
