package guard_test

import (
	"math"
	"slices"
	"testing"

	"quaver/api"
	"quaver/guard"
	"quaver/trial"
)

const (
	least    = trial.Least
	low      = trial.LeastNormal
	greatest = trial.Greatest
)

var (
	minus    = math.Copysign(0, -1)
	infinity = math.Inf(1)
	nan      = math.NaN()
	none     = api.Guard{}
	all      = api.Guard{Flush: true, Clip: true, Mute: true}
)

// guards are all eight.
func guards() []api.Guard {
	var made []api.Guard
	for bits := range 8 {
		made = append(made, api.Guard{Flush: bits&1 > 0, Clip: bits&2 > 0, Mute: bits&4 > 0})
	}
	return made
}

// list is these numbers.
func list(numbers ...complex128) []complex128 {
	return numbers
}

// half is the filter whose answers halve.
func half() api.Filter {
	return api.Filter{Gain: 1, Sections: []api.Section{{B0: 1, A1: -0.5}}}
}

// made is a filter that New does not refuse.
func made(t *testing.T, f api.Filter, g api.Guard) *guard.Guarded {
	t.Helper()
	d, e := guard.New(f, g)
	if e != api.OK || d == nil {
		t.Fatalf("P19.2: New(%v, %v): %v, %d", f, g, d, e)
	}
	return d
}

// model is a guarded filter at work by another road: the words of P19.1 and P19.3.
type model struct {
	filter  api.Filter
	guard   api.Guard
	states  []api.State
	changed uint64
}

func newModel(f api.Filter, g api.Guard) *model {
	return &model{filter: f, guard: g, states: make([]api.State, len(f.Sections))}
}

// part is one part as the guard leaves it.
func (m *model) part(x float64) float64 {
	was := x
	switch {
	case math.IsNaN(x):
		if m.guard.Mute {
			x = 0
		}
	case math.Abs(x) > greatest:
		if m.guard.Clip {
			x = math.Copysign(greatest, x)
		}
	case math.Abs(x) < low:
		if m.guard.Flush {
			x = math.Copysign(0, x)
		}
	}
	if !trial.AlikeFloat(x, was) {
		m.changed++
	}
	return x
}

func (m *model) clean(a complex128) complex128 {
	return complex(m.part(real(a)), m.part(imag(a)))
}

func (m *model) step(x complex128) complex128 {
	v := trial.Product(m.filter.Gain, x)
	for i, s := range m.filter.Sections {
		y, next := trial.Step(s, m.states[i], v)
		v = m.clean(y)
		m.states[i] = api.State{S1: m.clean(next.S1), S2: m.clean(next.S2)}
	}
	return v
}

func (m *model) run(samples []complex128) []complex128 {
	var answers []complex128
	for _, x := range samples {
		answers = append(answers, m.step(x))
	}
	return answers
}

// are holds numbers against those that are wanted, bit by bit.
func are(t *testing.T, got, want []complex128, name string, args ...any) {
	t.Helper()
	if !trial.AlikeNumbers(got, want) {
		t.Fatalf(name+" = %x, want %x", append(args, got, want)...)
	}
}

// stands holds what a filter tells against what is wanted, bit by bit.
func stands(t *testing.T, d *guard.Guarded, states []api.State, changed uint64, name string, args ...any) {
	t.Helper()
	if got := d.States(); !trial.AlikeStates(got, states) {
		t.Fatalf(name+": the states %x, want %x", append(args, got, states)...)
	}
	if got := d.Changed(); got != changed {
		t.Fatalf(name+": %d changed, want %d", append(args, got, changed)...)
	}
}

// like runs samples through a filter and its model, piece by piece.
func like(t *testing.T, d *guard.Guarded, m *model, pieces ...[]complex128) {
	t.Helper()
	for _, samples := range pieces {
		are(t, d.Run(samples), m.run(samples), "P19.3: Run(%x) of %x, %v", samples, m.filter, m.guard)
		stands(t, d, m.states, m.changed, "P19.4: behind Run(%x) of %x, %v", samples, m.filter, m.guard)
	}
}

// edges are the parts that a guard tells apart, those next to them, and a few others.
func edges() []float64 {
	var parts []float64
	for _, x := range []float64{0, least, low - least, low, 1, greatest, infinity} {
		parts = append(parts, x, trial.Turned(x))
	}
	return append(parts, nan, math.Float64frombits(0xfff0000000000001), math.Float64frombits(0x7ff0000000000001))
}

// filter is a filter of so many sections of finite numbers: of any kind, of a middle size, small ones with noughts of both signs, or at the ends of the format.
func filter(mix *trial.Mixer, sections int) api.Filter {
	ends := slices.DeleteFunc(append(edges(), 0.5, 2, 0x1p-500, 0x1p500), func(x float64) bool { return !trial.Finite(x) })
	rule := []func() float64{
		mix.Middle,
		func() float64 { return real(mix.FiniteNumbers(1)[0]) },
		func() float64 { return real(mix.Few(1)[0]) },
		func() float64 { return ends[mix.Below(len(ends))] },
	}[mix.Below(4)]
	f := api.Filter{Gain: mix.Numbers(1, rule)[0]}
	for range sections {
		f.Sections = append(f.Sections, mix.Section(rule))
	}
	return f
}

// samples are so many of one kind, or such as a guard changes.
func samples(mix *trial.Mixer, n int) []complex128 {
	if mix.Below(2) == 0 {
		return mix.Numbers(n, mix.Kind())
	}
	parts := edges()
	return mix.Numbers(n, func() float64 { return parts[mix.Below(len(parts))] })
}
