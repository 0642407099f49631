package biquad_test

import (
	"math"
	"testing"

	"quaver/api"
	"quaver/biquad"
	"quaver/trial"
)

func TestOfExamples(t *testing.T) {
	s, e := biquad.Of(group(list(-1, -1), list(0.5)))
	is(t, s, e, api.Section{B0: 1, B1: 2, B2: 1, A1: -0.5}, api.OK, "P15.1: Of(-1, -1; 0.5)")
	s, e = biquad.Of(api.Group{})
	is(t, s, e, api.Section{B0: 1}, api.OK, "P15.1: Of nothing")
	s, e = biquad.Of(group(list(), list()))
	is(t, s, e, api.Section{B0: 1}, api.OK, "P15.1: Of empty lists")
	s, e = biquad.Of(group(nil, list(complex(0.6, 0.8), complex(0.6, -0.8))))
	is(t, s, e, api.Section{B0: 1, A1: -1.2, A2: 1}, api.OK, "P15.1: Of two poles just outside")
	s, e = biquad.Of(group(nil, list(complex(0.5, 0.5), complex(0.5, -0.5))))
	is(t, s, e, api.Section{B0: 1, A1: -1, A2: 0.5}, api.OK, "P15.1: Of two poles inside")
}

// roots are one or two roots, and what is nearest to the coefficients that they make.
type roots struct {
	list          []complex128
	first, second complex128
}

// both holds Of of these roots, as zeros, as poles and as both, against what is wanted.
func both(t *testing.T, all ...roots) {
	t.Helper()
	for _, c := range all {
		s, e := biquad.Of(group(c.list, nil))
		is(t, s, e, api.Section{B0: 1, B1: c.first, B2: c.second}, api.OK, "P15.1: Of the zeros %x", c.list)
		s, e = biquad.Of(group(nil, c.list))
		is(t, s, e, api.Section{B0: 1, A1: c.first, A2: c.second}, api.OK, "P15.1: Of the poles %x", c.list)
		s, e = biquad.Of(group(c.list, c.list))
		is(t, s, e, api.Section{B0: 1, B1: c.first, B2: c.second, A1: c.first, A2: c.second}, api.OK, "P15.1: Of the zeros and poles %x", c.list)
		s, e = biquad.Of(group(c.list, list(3, 5)))
		is(t, s, e, api.Section{B0: 1, B1: c.first, B2: c.second, A1: -8, A2: 15}, api.OK, "P15.1: Of the zeros %x, and poles", c.list)
	}
}

// turned are these, the second root first.
func turned(all []roots) []roots {
	var other []roots
	for _, c := range all {
		other = append(other, roots{list(c.list[1], c.list[0]), c.first, c.second})
	}
	return other
}

func TestOneRoot(t *testing.T) {
	both(t, roots{list(2), -2, 0}, roots{list(complex(1, -2)), complex(-1, 2), 0}, roots{list(complex(0, 3)), complex(0, -3), 0}, roots{list(complex(-trial.Greatest, trial.Least)), complex(trial.Greatest, -trial.Least), 0})
	// Minus nought is +0.
	both(t, roots{list(complex(5, 0)), -5, 0}, roots{list(complex(minus, 5)), complex(0, -5), 0}, roots{list(complex(-5, minus)), 5, 0})
	for _, nought := range trial.Noughts() {
		both(t, roots{list(nought), 0, 0})
	}
}

func TestTwoRoots(t *testing.T) {
	all := []roots{
		{list(1, 2), -3, 2}, {list(complex(1, 2), complex(1, -2)), -2, 5}, {list(complex(1, 2), complex(3, 4)), complex(-4, -6), complex(-5, 10)}, {list(0.5, 0), -0.5, 0},
		// True noughts are +0, in one part or in both.
		{list(1, -1), 0, -1}, {list(complex(1, 1), complex(-1, -1)), 0, complex(0, -2)}, {list(complex(1, 1), complex(1, 1)), complex(-2, -2), complex(0, 2)}, {list(complex(-2, 3), complex(2, 3)), complex(0, -6), -13}, {list(complex(minus, 1), complex(minus, -1)), 0, 1}, {list(complex(0, minus), complex(minus, minus)), 0, 0}, {list(complex(minus, 0), -3), 3, 0}, {list(complex(minus, -7), complex(3, minus)), complex(-3, 7), complex(0, -21)},
	}
	both(t, all...)
	both(t, turned(all)...)
}

func TestSumsAndProductsAreRoundedOnce(t *testing.T) {
	tiny, last := trial.Least, 0x1p-52
	above := complex(math.Nextafter(0x1p-53, 1), 0)
	all := []roots{
		// Sums that are ties, and next to them.
		{list(1, 0x1p-53), -1, 0x1p-53}, {list(1, above), complex(-1-last, 0), above}, {list(1, 0x1p-54), -1, 0x1p-54}, {list(-1, -0x1p-53), 1, 0x1p-53}, {list(complex(0, 1), complex(0, 0x1p-53)), complex(0, -1), -0x1p-53},
		{list(complex(1+last, 0), 0x1p-53), complex(-1-2*last, 0), complex(0x1p-53+0x1p-105, 0)},
		// Products that are ties: 3 (1 + last) / 2 goes up, 5 (1 + 2 last) / 4 goes down.
		{list(complex(1+last, 0), 1.5), -2.5, complex(1.5+2*last, 0)}, {list(complex(1+2*last, 0), 1.25), -2.25 - 0x1p-51, complex(1.25+2*last, 0)},
		// What is left when all but the last bits go out.
		{list(complex(1+0x1p-30, 1), complex(1+0x1p-30, 1+0x1p-29)), complex(-2-0x1p-29, -2-0x1p-29), complex(0x1p-60, 2+0x1p-28)}, {list(complex(1, 1), complex(-1+0x1p-53, -1)), complex(-0x1p-53, 0), complex(0x1p-53, -2)}, {list(1, complex(-1, tiny)), complex(0, -tiny), complex(-1, tiny)}, {list(complex(0x1p53, 1), complex(1, 0x1p53)), complex(-0x1p53, -0x1p53), complex(0, 0x1p106)},
		// Subnormal ones; what is rounded to nought has its sign.
		{list(complex(tiny, 0), complex(tiny, 0)), complex(-2*tiny, 0), 0}, {list(complex(tiny, 0), complex(-tiny, 0)), 0, complex(minus, 0)}, {list(0x1p-1000, 0x1p-74), -0x1p-74, complex(tiny, 0)}, {list(0x1p-1000, 0x1p-75), -0x1p-75, 0}, {list(0x1p-1000, -0x1p-75), 0x1p-75, complex(minus, 0)}, {list(0x1p-1000, -0x1.8p-75), 0x1.8p-75, complex(-tiny, 0)}, {list(complex(0, 0x1p-600), complex(0, 0x1p-600)), complex(0, -0x1p-599), complex(minus, 0)}, {list(complex(0, 0x1p-600), -0x1p-600), complex(0x1p-600, -0x1p-600), complex(0, minus)},
		// Beside the greatest.
		{list(0x1p1023, complex(0, 1)), complex(-0x1p1023, -1), complex(0, 0x1p1023)}, {list(0x1p512, 0x1p511), -0x1.8p512, 0x1p1023}, {list(trial.Greatest, 1), -trial.Greatest, trial.Greatest}, {list(complex(0, trial.Greatest), complex(0, -1)), complex(0, -trial.Greatest), trial.Greatest}, {list(trial.Greatest, complex(-1, 0.5)), complex(-trial.Greatest, -0.5), complex(-trial.Greatest, 0x1.fffffffffffffp1022)},
	}
	both(t, all...)
	both(t, turned(all)...)
}

func TestOfAnyRoots(t *testing.T) {
	mix := trial.Mixer(151)
	kinds := []func(n int) []complex128{mix.Few, mix.FiniteNumbers, func(n int) []complex128 { return mix.Numbers(n, mix.Middle) }}
	some := func() []complex128 { return kinds[mix.Below(len(kinds))](mix.Below(3)) }
	beyond := 0
	for range 5000 {
		g := group(some(), some())
		top, below := shares(g.Zeros), shares(g.Poles)
		want, fault := nearest(trial.Fraction(1, 0, 1), top[0], top[1], below[0], below[1])
		if fault != api.OK {
			beyond++
		}
		s, e := biquad.Of(g)
		is(t, s, e, want, fault, "P15.1, P3: Of(%x)", g)
	}
	if beyond < 100 {
		t.Errorf("only %d groups go beyond the greatest", beyond)
	}
}

func TestOfBeyondTheGreatest(t *testing.T) {
	most, half := trial.Greatest, 0x1p970
	for _, two := range [][]complex128{
		list(1e200, 1e200), list(complex(0, 1e200), complex(0, 1e200)), list(complex(0, 1e200), 1e200), list(complex(most, 0), complex(half, 0)), list(complex(-most, 0), complex(-half, 0)), list(complex(0, most), complex(0, half)), list(complex(most, 0), complex(most, 0)), list(complex(1, most), complex(0, most)), list(0x1p512, 0x1p512), list(0x1p1023, complex(1, 2)), list(complex(most, 0), complex(1+0x1p-52, 0)), list(complex(0x1p1023, 1), complex(1, 0x1p1023)),
	} {
		for _, g := range []api.Group{group(two, nil), group(nil, two), group(two, two), group(two, list(1, 2)), group(list(1, 2), two)} {
			s, e := biquad.Of(g)
			is(t, s, e, api.Section{}, api.ErrOver, "P15.1: Of(%x)", g)
		}
	}
}
