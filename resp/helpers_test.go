package resp_test

import (
	"math"
	"testing"

	"quaver/api"
	"quaver/resp"
	"quaver/trial"
)

const (
	least    = trial.Least
	greatest = trial.Greatest
)

var (
	minus    = math.Copysign(0, -1)
	infinity = math.Inf(1)
	nan      = math.NaN()
)

// list is these numbers.
func list(numbers ...complex128) []complex128 {
	return numbers
}

// half is 1 / (1 - 1/(2z)).
func half() api.Filter {
	return of(1, api.Section{B0: 1, A1: -0.5})
}

// of is the filter of this gain and these sections.
func of(gain complex128, sections ...api.Section) api.Filter {
	return api.Filter{Gain: gain, Sections: sections}
}

// mixed is a filter of at most so many sections, whose parts the rule tells.
func mixed(mix *trial.Mixer, most int, rule func() float64) api.Filter {
	f := of(mix.Numbers(1, rule)[0])
	for range mix.Below(most + 1) {
		f.Sections = append(f.Sections, mix.Section(rule))
	}
	return f
}

// quotient is P3.4 by another road.
func quotient(a, b complex128) complex128 {
	ar, ai, br, bi := real(a), imag(a), real(b), imag(b)
	if math.Abs(br) >= math.Abs(bi) {
		t := trial.Over(bi, br)
		d := trial.Plus(br, trial.Times(bi, t))
		return complex(trial.Over(trial.Plus(ar, trial.Times(ai, t)), d), trial.Over(trial.Less(ai, trial.Times(ar, t)), d))
	}
	t := trial.Over(br, bi)
	d := trial.Plus(bi, trial.Times(br, t))
	return complex(trial.Over(trial.Plus(trial.Times(ar, t), ai), d), trial.Over(trial.Less(trial.Times(ai, t), ar), d))
}

// horner is P8.7 by another road, of three coefficients.
func horner(c0, c1, c2, z complex128) complex128 {
	r := trial.Both(trial.Product(0, z), c2)
	r = trial.Both(trial.Product(r, z), c1)
	return trial.Both(trial.Product(r, z), c0)
}

// stepped is P22.1 by another road: each step is worked out with true numbers and rounded then.
func stepped(f api.Filter, z complex128) complex128 {
	w := quotient(1, z)
	v := f.Gain
	for _, s := range f.Sections {
		v = trial.Product(v, quotient(horner(s.B0, s.B1, s.B2, w), horner(1, s.A1, s.A2, w)))
	}
	return v
}

// truly is P22.2 by rational numbers; false, where a denominator is nought.
func truly(f api.Filter, z api.Gauss) (api.Gauss, bool) {
	one := trial.Fraction(1, 0, 1)
	w := one.Quo(trial.ValueGauss(z))
	at := func(c0, c1, c2 complex128) trial.Complex {
		return trial.Exactly(c0).Add(trial.Exactly(c1).Mul(w)).Add(trial.Exactly(c2).Mul(w).Mul(w))
	}
	v := trial.Exactly(f.Gain)
	for _, s := range f.Sections {
		below := at(1, s.A1, s.A2)
		if below.Nought() {
			return api.Gauss{}, false
		}
		v = v.Mul(at(s.B0, s.B1, s.B2)).Quo(below)
	}
	return v.Gauss(), true
}

// at is the answer at a point that At does not refuse.
func at(t *testing.T, f api.Filter, z complex128) complex128 {
	t.Helper()
	a, e := resp.At(f, z)
	if e != api.OK {
		t.Fatalf("P22.1: At(%x, %x): %d", f, z, e)
	}
	return a
}

// exactly is the true answer at a point that Exact does not refuse.
func exactly(t *testing.T, f api.Filter, z api.Gauss) api.Gauss {
	t.Helper()
	g, e := resp.Exact(f, z)
	if e != api.OK {
		t.Fatalf("P22.2: Exact(%x, %v): %d", f, z, e)
	}
	return g
}

// far is a distance that Far does not refuse to tell.
func far(t *testing.T, a complex128, g api.Gauss) api.Rat {
	t.Helper()
	r, e := resp.Far(a, g)
	if e != api.OK {
		t.Fatalf("P22.5: Far(%x, %v): %d", a, g, e)
	}
	return r
}
