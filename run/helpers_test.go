package run_test

import (
	"math"
	"testing"

	"quaver/api"
	"quaver/trial"
)

const (
	least    = trial.Least
	greatest = trial.Greatest
)

var (
	minus    = math.Copysign(0, -1)
	infinity = math.Inf(1)
	nan      = math.NaN()
)

// list is these numbers.
func list(numbers ...complex128) []complex128 {
	return numbers
}

// lists has what the calls that know no errors are asked of: samples of every kind, none, one and many.
func lists(mix *trial.Mixer, rule func() float64) [][]complex128 {
	var all [][]complex128
	for _, n := range []int{0, 1, 2, 3, 7} {
		all = append(all, mix.Numbers(n, rule))
	}
	return all
}

// are holds answers against those that are wanted, bit by bit.
func are(t *testing.T, got, want []complex128, name string, args ...any) {
	t.Helper()
	if !trial.AlikeNumbers(got, want) {
		t.Errorf(name+" = %x, want %x", append(args, got, want)...)
	}
}

// stands holds a state against the one that is wanted, bit by bit.
func stands(t *testing.T, got, want api.State, name string, args ...any) {
	t.Helper()
	if !trial.AlikeState(got, want) {
		t.Errorf(name+": the state %x, want %x", append(args, got, want)...)
	}
}
