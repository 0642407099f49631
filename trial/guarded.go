package trial

import (
	"math"
	"slices"

	"quaver/api"
)

// Guards are all eight.
func Guards() []api.Guard {
	var made []api.Guard
	for bits := range 8 {
		made = append(made, api.Guard{Flush: bits&1 > 0, Clip: bits&2 > 0, Mute: bits&4 > 0})
	}
	return made
}

// Guarded is a guarded filter at work by another road: the words of P19.1 and P19.3, and Step.
type Guarded struct {
	Filter  api.Filter
	Guard   api.Guard
	States  []api.State
	Changed uint64
}

// NewGuarded is one at rest.
func NewGuarded(f api.Filter, g api.Guard) *Guarded {
	return &Guarded{Filter: f, Guard: g, States: make([]api.State, len(f.Sections))}
}

// part is one part as the guard leaves it.
func (m *Guarded) part(x float64) float64 {
	was := x
	switch {
	case math.IsNaN(x):
		if m.Guard.Mute {
			x = 0
		}
	case math.Abs(x) > Greatest:
		if m.Guard.Clip {
			x = math.Copysign(Greatest, x)
		}
	case math.Abs(x) < LeastNormal:
		if m.Guard.Flush {
			x = math.Copysign(0, x)
		}
	}
	if !AlikeFloat(x, was) {
		m.Changed++
	}
	return x
}

func (m *Guarded) clean(a complex128) complex128 {
	return complex(m.part(real(a)), m.part(imag(a)))
}

// Step, Run: the answers to a sample, and to many.
func (m *Guarded) Step(x complex128) complex128 {
	v := Product(m.Filter.Gain, x)
	for i, s := range m.Filter.Sections {
		y, next := Step(s, m.States[i], v)
		v = m.clean(y)
		m.States[i] = api.State{S1: m.clean(next.S1), S2: m.clean(next.S2)}
	}
	return v
}

func (m *Guarded) Run(samples []complex128) []complex128 {
	var answers []complex128
	for _, x := range samples {
		answers = append(answers, m.Step(x))
	}
	return answers
}

// Edges are the parts that a guard tells apart, those next to them, and a few others.
func Edges() []float64 {
	var parts []float64
	for _, x := range []float64{0, Least, LeastNormal - Least, LeastNormal, 1, Greatest, math.Inf(1)} {
		parts = append(parts, x, Turned(x))
	}
	return append(parts, math.NaN(), math.Float64frombits(0xfff0000000000001), math.Float64frombits(0x7ff0000000000001))
}

// Filter is a filter of so many sections of finite numbers: of any kind, of a middle size, small ones with noughts of both signs, or at the ends of the format.
func (m *Mixer) Filter(sections int) api.Filter {
	ends := slices.DeleteFunc(append(Edges(), 0.5, 2, 0x1p-500, 0x1p500), func(x float64) bool { return !Finite(x) })
	rule := []func() float64{
		m.Middle,
		func() float64 { return real(m.FiniteNumbers(1)[0]) },
		func() float64 { return real(m.Few(1)[0]) },
		func() float64 { return ends[m.Below(len(ends))] },
	}[m.Below(4)]
	f := api.Filter{Gain: m.Numbers(1, rule)[0]}
	for range sections {
		f.Sections = append(f.Sections, m.Section(rule))
	}
	return f
}

// Samples are so many of one kind, or such as a guard changes.
func (m *Mixer) Samples(n int) []complex128 {
	if m.Below(2) == 0 {
		return m.Numbers(n, m.Kind())
	}
	parts := Edges()
	return m.Numbers(n, func() float64 { return parts[m.Below(len(parts))] })
}
