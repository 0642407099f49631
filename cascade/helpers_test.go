package cascade_test

import (
	"math"
	"slices"
	"testing"

	"quaver/api"
	"quaver/cascade"
	"quaver/trial"
)

var (
	minus    = math.Copysign(0, -1)
	infinity = math.Inf(1)
	nan      = math.NaN()
)

// half is the filter whose answers halve.
func half() api.Filter {
	return api.Filter{Gain: 1, Sections: []api.Section{{B0: 1, A1: -0.5}}}
}

// list is these numbers.
func list(numbers ...complex128) []complex128 {
	return numbers
}

// made is a filter at work that New does not refuse.
func made(t *testing.T, f api.Filter) *cascade.Cascade {
	t.Helper()
	c, e := cascade.New(f)
	if e != api.OK || c == nil {
		t.Fatalf("P17.1: New(%v): %v, %d", f, c, e)
	}
	return c
}

// model is a filter at work by another road.
type model struct {
	filter api.Filter
	states []api.State
}

func newModel(f api.Filter) *model {
	return &model{f, make([]api.State, len(f.Sections))}
}

func (m *model) step(x complex128) complex128 {
	y := trial.Product(m.filter.Gain, x)
	for i, s := range m.filter.Sections {
		y, m.states[i] = trial.Step(s, m.states[i], y)
	}
	return y
}

func (m *model) run(samples []complex128) []complex128 {
	var answers []complex128
	for _, x := range samples {
		answers = append(answers, m.step(x))
	}
	return answers
}

func (m *model) copy() *model {
	return &model{m.filter, slices.Clone(m.states)}
}

// are holds answers against those that are wanted, bit by bit.
func are(t *testing.T, got, want []complex128, name string, args ...any) {
	t.Helper()
	if !trial.AlikeNumbers(got, want) {
		t.Fatalf(name+" = %x, want %x", append(args, got, want)...)
	}
}

// stands holds the states against those that are wanted, bit by bit.
func stands(t *testing.T, c *cascade.Cascade, want []api.State, name string, args ...any) {
	t.Helper()
	if got := c.States(); !trial.AlikeStates(got, want) {
		t.Fatalf(name+": the states %x, want %x", append(args, got, want)...)
	}
}

// filter is a filter of so many sections of finite numbers: of any kind, of a middle size, or small ones with noughts of both signs.
func filter(mix *trial.Mixer, sections int) api.Filter {
	rule := []func() float64{
		mix.Middle,
		func() float64 { return real(mix.FiniteNumbers(1)[0]) },
		func() float64 { return real(mix.Few(1)[0]) },
		func() float64 { return mix.Middle() / 2048 },
	}[mix.Below(4)]
	f := api.Filter{Gain: mix.Numbers(1, rule)[0]}
	for range sections {
		f.Sections = append(f.Sections, mix.Section(rule))
	}
	return f
}

// states are so many of any kind.
func states(mix *trial.Mixer, n int) []api.State {
	rule := mix.Kind()
	var all []api.State
	for range n {
		all = append(all, mix.State(rule))
	}
	return all
}
