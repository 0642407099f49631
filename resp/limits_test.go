package resp_test

import (
	"math/big"
	"slices"
	"testing"

	"quaver/api"
	"quaver/gauss"
	"quaver/resp"
	"quaver/trial"
)

func TestExactErrors(t *testing.T) {
	one := trial.Whole(1, 0)
	full := of(1, slices.Repeat([]api.Section{{B0: 1, A1: -0.5}}, api.MaxSections)...)
	beyond := of(1, slices.Repeat([]api.Section{{B0: 1, A1: -0.5}}, api.MaxSections+1)...)
	if got := exactly(t, full, one); !trial.AlikeGauss(got, trial.Whole(65536, 0)) {
		t.Errorf("P22.2: Exact of %d sections: %v", api.MaxSections, got)
	}
	check := func(name string, f api.Filter, z api.Gauss, want api.Errno) {
		t.Helper()
		if g, e := resp.Exact(f, z); e != want || !trial.AlikeGauss(g, api.Gauss{}) {
			t.Errorf("P22.2: Exact, %s: %v, %d, want %d", name, g, e, want)
		}
	}
	endless := of(complex(nan, 0), api.Section{B0: complex(0, infinity)}, half().Sections[0])
	for _, f := range []api.Filter{of(0), half(), full, endless} {
		for _, z := range trial.Either(trial.Long()) {
			check("too long", f, z, api.ErrLong)
		}
		for _, z := range trial.Either(trial.Wrong()) {
			check("not in form", f, z, api.ErrForm)
			check("17 sections, not in form", beyond, z, api.ErrLong)
		}
		for _, r := range trial.Wrong() {
			check("one part too long, one not in form", f, api.Gauss{Re: r, Im: trial.Long()[0]}, api.ErrLong)
		}
		check("nothing at all", f, api.Gauss{}, api.ErrForm)
		check("0", f, trial.Whole(0, 0), api.ErrZero)
	}
	check("17 sections", beyond, one, api.ErrLong)
	check("17 sections at 0", beyond, trial.Whole(0, 0), api.ErrLong)
	check("17 sections, a NaN", of(complex(nan, 0), beyond.Sections...), one, api.ErrLong)
	check("100 sections, nothing at all", of(1, make([]api.Section, 100)...), api.Gauss{}, api.ErrLong)
}

// Each number of the filter is asked whether it is finite, whichever stands where.
func TestExactOfEndlessNumbers(t *testing.T) {
	z := trial.Fraction(1, 2, 3).Gauss()
	for _, bad := range append(trial.Endless(), complex(0, nan), complex(infinity, 0)) {
		if g, e := resp.Exact(of(bad), z); e != api.ErrNaN || !trial.AlikeGauss(g, api.Gauss{}) {
			t.Errorf("P22.2: Exact of the gain %v: %v, %d", bad, g, e)
		}
		for place := range 5 {
			row := list(1, 2, 3, 0.25, 0.125)
			row[place] = bad
			s := trial.Section(row)
			for _, f := range []api.Filter{of(1, s), of(0, s), of(1, s, half().Sections[0]), of(1, half().Sections[0], s)} {
				if g, e := resp.Exact(f, z); e != api.ErrNaN || !trial.AlikeGauss(g, api.Gauss{}) {
					t.Errorf("P22.2: Exact of %v: %v, %d", f, g, e)
				}
			}
		}
	}
}

// holds looks whether an answer, whose numbers are too long for math/big's Rat, is the true one modulo a prime, and in form.
func holds(t *testing.T, name string, f api.Filter, z api.Gauss) api.Gauss {
	t.Helper()
	got := exactly(t, f, z)
	stand := func(a complex128) trial.Complex { return trial.Stand(trial.Exactly(a).Gauss()) }
	p, one := trial.Stand(z), stand(1)
	left, right := trial.Stand(got), stand(f.Gain)
	for _, s := range f.Sections {
		left = left.Mul(one.Mul(p).Add(stand(s.A1)).Mul(p).Add(stand(s.A2)))
		right = right.Mul(stand(s.B0).Mul(p).Add(stand(s.B1)).Mul(p).Add(stand(s.B2)))
	}
	if !left.Sub(right).Multiple() {
		t.Errorf("P22.2: Exact, %s, is not the true answer", name)
	}
	if !gauss.Form(got) {
		t.Errorf("P22.2: Exact, %s, is not in form", name)
	}
	return got
}

func TestExactAtTheLimit(t *testing.T) {
	mix := trial.Mixer(229)
	two := of(3, api.Section{B0: 0.5, B1: 2, A1: -0.5, A2: 0.125}, api.Section{B0: 1, B2: 0.75, A1: 0.25})
	turned := of(complex(0.5, 2), api.Section{B0: complex(0.5, 1), B1: 2i, A1: complex(-0.5, 3), A2: 0.125i})
	nought := trial.Frac(0, 1)
	whole := api.Rat{Num: mix.Odd(api.MaxLimbs), Den: []uint64{1}}
	small := api.Rat{Neg: true, Num: []uint64{1}, Den: mix.Odd(api.MaxLimbs)}
	binary := api.Rat{Num: mix.Odd(api.MaxLimbs), Den: append(make([]uint64, api.MaxLimbs-1), 1<<63)}
	for _, c := range []struct {
		name string
		f    api.Filter
		z    api.Gauss
	}{
		{"a long whole number", two, api.Gauss{Re: whole, Im: nought}}, {"a long denominator", two, api.Gauss{Re: small, Im: nought}}, {"over a long power of two", two, api.Gauss{Re: binary, Im: nought}},
		{"on the other axis", half(), api.Gauss{Re: nought, Im: whole}}, {"small on the other axis", half(), api.Gauss{Re: nought, Im: small}},
		{"long whole numbers", turned, api.Gauss{Re: whole, Im: whole}}, {"one of each", half(), api.Gauss{Re: whole, Im: small}}, {"powers of two", half(), api.Gauss{Re: binary, Im: binary}},
	} {
		if got := holds(t, c.name, c.f, c.z); trial.Longest(got) <= api.MaxLimbs {
			t.Errorf("P22.2: Exact, %s: %d limbs", c.name, trial.Longest(got))
		}
		if got, e := gauss.From(2i); e != api.OK || !trial.AlikeGauss(exactly(t, of(2i), c.z), got) {
			t.Errorf("P22.2: Exact of a gain alone, %s", c.name)
		}
	}
	// The farthest filter, at a point of a few limbs.
	full := of(1)
	for range api.MaxSections {
		full.Sections = append(full.Sections, mix.Section(mix.Middle))
	}
	holds(t, "16 sections", full, api.Gauss{Re: trial.Frac(-2, 3), Im: api.Rat{Num: []uint64{1}, Den: mix.Odd(5)}})
}

func TestExactCancels(t *testing.T) {
	// (1 + 1/z) (1 - 1/z) / ((1 + 1/z) (1 - 1/z)) is 1 at any point, however long.
	mix := trial.Mixer(230)
	f := of(7, api.Section{B0: 1, B1: 1, A1: -1}, api.Section{B0: 1, B1: -1, A1: 1})
	z := api.Gauss{Re: api.Rat{Num: mix.Odd(700), Den: []uint64{1}}, Im: api.Rat{Num: mix.Odd(600), Den: []uint64{1}}}
	if got := exactly(t, f, z); !trial.AlikeGauss(got, trial.Whole(7, 0)) {
		t.Errorf("P22.2: Exact of 7 over 1: %d limbs", trial.Longest(got))
	}
}

func TestFarAtTheLimit(t *testing.T) {
	mix := trial.Mixer(231)
	whole := api.Rat{Num: mix.Odd(api.MaxLimbs), Den: []uint64{1}}
	small := api.Rat{Num: []uint64{1}, Den: mix.Odd(api.MaxLimbs)}
	n := trial.Natural(whole.Num)
	n.Mul(n, n)
	d := trial.Natural(small.Den)
	d.Mul(d, d)
	n.Mul(n, d).Add(n, big.NewInt(1))
	got := far(t, 0, api.Gauss{Re: whole, Im: small})
	if got.Neg || trial.Natural(got.Num).Cmp(n) != 0 || trial.Natural(got.Den).Cmp(d) != 0 {
		t.Errorf("P22.5: Far of long numbers: %d limbs over %d", len(got.Num), len(got.Den))
	}
	if got := far(t, 1, api.Gauss{Re: trial.Frac(1, 1), Im: small}); len(got.Num) != 1 || got.Num[0] != 1 || trial.Natural(got.Den).Cmp(d) != 0 {
		t.Errorf("P22.5: Far of a long denominator: %d limbs over %d", len(got.Num), len(got.Den))
	}
}
