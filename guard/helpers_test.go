package guard_test

import (
	"math"
	"testing"

	"quaver/api"
	"quaver/guard"
	"quaver/trial"
)

const (
	least    = trial.Least
	low      = trial.LeastNormal
	greatest = trial.Greatest
)

var (
	minus    = math.Copysign(0, -1)
	infinity = math.Inf(1)
	nan      = math.NaN()
	none     = api.Guard{}
	all      = api.Guard{Flush: true, Clip: true, Mute: true}
)

// list is these numbers.
func list(numbers ...complex128) []complex128 {
	return numbers
}

// half is the filter whose answers halve.
func half() api.Filter {
	return api.Filter{Gain: 1, Sections: []api.Section{{B0: 1, A1: -0.5}}}
}

// made is a filter that New does not refuse.
func made(t *testing.T, f api.Filter, g api.Guard) *guard.Guarded {
	t.Helper()
	d, e := guard.New(f, g)
	if e != api.OK || d == nil {
		t.Fatalf("P19.2: New(%v, %v): %v, %d", f, g, d, e)
	}
	return d
}

// are holds numbers against those that are wanted, bit by bit.
func are(t *testing.T, got, want []complex128, name string, args ...any) {
	t.Helper()
	if !trial.AlikeNumbers(got, want) {
		t.Fatalf(name+" = %x, want %x", append(args, got, want)...)
	}
}

// stands holds what a filter tells against what is wanted, bit by bit.
func stands(t *testing.T, d *guard.Guarded, states []api.State, changed uint64, name string, args ...any) {
	t.Helper()
	if got := d.States(); !trial.AlikeStates(got, states) {
		t.Fatalf(name+": the states %x, want %x", append(args, got, states)...)
	}
	if got := d.Changed(); got != changed {
		t.Fatalf(name+": %d changed, want %d", append(args, got, changed)...)
	}
}

// like runs samples through a filter and its model, piece by piece.
func like(t *testing.T, d *guard.Guarded, m *trial.Guarded, pieces ...[]complex128) {
	t.Helper()
	for _, samples := range pieces {
		are(t, d.Run(samples), m.Run(samples), "P19.3: Run(%x) of %x, %v", samples, m.Filter, m.Guard)
		stands(t, d, m.States, m.Changed, "P19.4: behind Run(%x) of %x, %v", samples, m.Filter, m.Guard)
	}
}
