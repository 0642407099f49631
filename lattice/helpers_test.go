package lattice_test

import (
	"math"
	"slices"
	"testing"

	"quaver/api"
	"quaver/lattice"
	"quaver/trial"
)

const (
	least    = trial.Least
	greatest = trial.Greatest
)

var (
	minus    = math.Copysign(0, -1)
	infinity = math.Inf(1)
	nan      = math.NaN()
)

// list is these numbers.
func list(numbers ...complex128) []complex128 {
	return numbers
}

// made is a lattice that New does not refuse.
func made(t *testing.T, ks []complex128) *lattice.Lattice {
	t.Helper()
	l, e := lattice.New(ks)
	if e != api.OK || l == nil {
		t.Fatalf("P18.1: New(%v): %v, %d", ks, l, e)
	}
	return l
}

// model is a lattice at work by another road: the words of P18.2, each step worked out with true numbers and rounded then.
type model struct {
	ks, back []complex128
}

func newModel(ks []complex128) *model {
	return &model{ks, make([]complex128, len(ks))}
}

func conj(a complex128) complex128 {
	return complex(real(a), trial.Turned(imag(a)))
}

func (l *model) step(x complex128) complex128 {
	n := len(l.ks)
	f, c := x, make([]complex128, n+1)
	for m := n; m >= 1; m-- {
		f = trial.Apart(f, trial.Product(l.ks[m-1], l.back[m-1]))
		c[m] = trial.Both(l.back[m-1], trial.Product(conj(l.ks[m-1]), f))
	}
	if n > 0 {
		l.back = append(list(f), c[1:n]...)
	}
	return f
}

func (l *model) run(samples []complex128) []complex128 {
	var answers []complex128
	for _, x := range samples {
		answers = append(answers, l.step(x))
	}
	return answers
}

// are holds numbers against those that are wanted, bit by bit.
func are(t *testing.T, got, want []complex128, name string, args ...any) {
	t.Helper()
	if !trial.AlikeNumbers(got, want) {
		t.Fatalf(name+" = %x, want %x", append(args, got, want)...)
	}
}

// ladder are so many reflection numbers: of any size, of a middle one, few that are small with noughts of both signs, or below 1.
func ladder(mix *trial.Mixer, n int) []complex128 {
	switch mix.Below(4) {
	case 0:
		return mix.FiniteNumbers(n)
	case 1:
		return mix.Few(n)
	case 2:
		return mix.Numbers(n, mix.Middle)
	}
	return mix.Numbers(n, func() float64 { return mix.Middle() / 2048 })
}

// counts are how many numbers a lattice may have, at the ends and between.
func counts() []int {
	return []int{0, 1, 2, 3, 7, api.MaxRoots - 1, api.MaxRoots}
}

// halves are parts of a few bits, of which no step of a few is rounded.
func halves(mix *trial.Mixer) func() float64 {
	return func() float64 { return float64(mix.Below(5)-2) / 2 }
}

// exactly asks for the true answers of finite numbers.
func exactly(t *testing.T, ks, samples []complex128) []api.Gauss {
	t.Helper()
	answers, e := lattice.Exact(ks, samples)
	if e != api.OK || len(answers) != len(samples) {
		t.Fatalf("P18.5: Exact(%x, %d samples): %d answers, %d", ks, len(samples), len(answers), e)
	}
	return answers
}

// truly is P18.5 by rational numbers, in the words of P18.2.
func truly(ks, samples []complex128) []api.Gauss {
	n := len(ks)
	back := slices.Repeat([]trial.Complex{trial.Fraction(0, 0, 1)}, n)
	var answers []api.Gauss
	for _, x := range samples {
		f, c := trial.Exactly(x), make([]trial.Complex, n+1)
		for m := n; m >= 1; m-- {
			k := trial.Exactly(ks[m-1])
			f = f.Sub(k.Mul(back[m-1]))
			c[m] = back[m-1].Add(k.Conj().Mul(f))
		}
		if n > 0 {
			back = append([]trial.Complex{f}, c[1:n]...)
		}
		answers = append(answers, f.Gauss())
	}
	return answers
}
