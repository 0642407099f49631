package trial

import (
	"slices"

	"quaver/api"
)

// Row are a section's coefficients, in the order of its fields.
func Row(s api.Section) []complex128 {
	return []complex128{s.B0, s.B1, s.B2, s.A1, s.A2}
}

// Section is the section of these five coefficients.
func Section(c []complex128) api.Section {
	return api.Section{B0: c[0], B1: c[1], B2: c[2], A1: c[3], A2: c[4]}
}

// AlikeSection, AlikeState: bit by bit; NaNs are one.
func AlikeSection(s, r api.Section) bool {
	return AlikeNumbers(Row(s), Row(r))
}

func AlikeState(a, b api.State) bool {
	return AlikeNumber(a.S1, b.S1) && AlikeNumber(a.S2, b.S2)
}

func AlikeStates(a, b []api.State) bool {
	return slices.EqualFunc(a, b, AlikeState)
}

// Step is P16.1 by another road: each sum, difference and product is worked out with true numbers and rounded then.
func Step(s api.Section, st api.State, x complex128) (complex128, api.State) {
	y := Both(Product(s.B0, x), st.S1)
	return y, api.State{
		S1: Apart(Both(Product(s.B1, x), st.S2), Product(s.A1, y)),
		S2: Apart(Product(s.B2, x), Product(s.A2, y)),
	}
}

// Kind is a rule that tells parts of one kind, so that numbers of the kind meet: of any kind, finite, of a middle size, small whole numbers and noughts of both signs.
func (m *Mixer) Kind() func() float64 {
	switch m.Below(4) {
	case 0:
		return m.Float
	case 1:
		return func() float64 { return real(m.FiniteNumbers(1)[0]) }
	case 2:
		return m.Middle
	}
	return func() float64 { return real(m.Few(1)[0]) }
}

// Section is a section whose parts the rule tells.
func (m *Mixer) Section(rule func() float64) api.Section {
	return Section(m.Numbers(5, rule))
}

// State is a state whose parts the rule tells.
func (m *Mixer) State(rule func() float64) api.State {
	c := m.Numbers(2, rule)
	return api.State{S1: c[0], S2: c[1]}
}
