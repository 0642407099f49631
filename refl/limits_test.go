package refl_test

import (
	"slices"
	"testing"

	"quaver/api"
	"quaver/refl"
	"quaver/trial"
)

// check: does every call of a polynomial answer the first error of this list, and Up the second one? Beside an error nothing stands.
func check(t *testing.T, bad []api.Gauss, want, ups api.Errno) {
	t.Helper()
	for name, call := range calls() {
		expect := want
		if name == "Up" {
			expect = ups
		}
		got, e := call(bad)
		if e != expect || e != api.OK && len(got) > 0 {
			t.Errorf("Errors: %s of %d places: %v, %d, want %d", name, len(bad), got, e, expect)
		}
	}
}

func TestWrongNumbers(t *testing.T) {
	check(t, nil, api.ErrZero, api.OK)
	check(t, []api.Gauss{}, api.ErrZero, api.OK)
	check(t, trial.Reals(0), api.ErrForm, api.OK)
	check(t, trial.Reals(1, 2, 0), api.ErrForm, api.OK)
	check(t, make([]api.Gauss, api.MaxRoots), api.ErrForm, api.ErrForm)
	one := trial.Whole(1, 0)
	for _, bad := range trial.Either(trial.Wrong()) {
		check(t, []api.Gauss{bad}, api.ErrForm, api.ErrForm)
		check(t, []api.Gauss{one, bad}, api.ErrForm, api.ErrForm)
		check(t, []api.Gauss{bad, one}, api.ErrForm, api.ErrForm)
		check(t, []api.Gauss{one, bad, one}, api.ErrForm, api.ErrForm)
	}
	for _, bad := range trial.Either(trial.Long()) {
		check(t, []api.Gauss{bad}, api.ErrLong, api.ErrLong)
		check(t, []api.Gauss{one, bad, one}, api.ErrLong, api.ErrLong)
		// Not in form, and not stable, what stands beside it.
		check(t, []api.Gauss{{}, bad, trial.Whole(0, 0)}, api.ErrLong, api.ErrLong)
	}
}

func TestDegrees(t *testing.T) {
	// 24 and 25 numbers, as polynomials of degree 23 and 24, then one more.
	least, most := trial.Sparse(api.MaxRoots-1, 3, 0), trial.Sparse(api.MaxRoots, 3, 0)
	check(t, least, api.OK, api.OK)
	check(t, most, api.OK, api.ErrLong)
	check(t, trial.Sparse(api.MaxRoots+1, 3, 0), api.ErrLong, api.ErrLong)
	check(t, append(slices.Clone(least), trial.Whole(0, 0)), api.ErrForm, api.ErrLong)
	check(t, append(slices.Clone(most), trial.Whole(0, 0)), api.ErrLong, api.ErrLong)
	check(t, make([]api.Gauss, api.MaxRoots+1), api.ErrForm, api.ErrLong)
	check(t, make([]api.Gauss, api.MaxRoots+2), api.ErrLong, api.ErrLong)
	check(t, trial.Sparse(api.MaxDegree+1, 1, 0), api.ErrLong, api.ErrLong)
	check(t, make([]api.Gauss, 100000), api.ErrLong, api.ErrLong)
	// A magnitude of 1 goes behind all of these.
	check(t, append(trial.Sparse(24, 1, 0), trial.Whole(1, 0)), api.ErrLong, api.ErrLong)
	bad := trial.Sparse(24, 1, 0)
	bad[7].Re.Neg = true
	check(t, bad, api.ErrForm, api.ErrLong)
}

func TestMaxLimbs(t *testing.T) {
	big, one := long(), trial.Whole(1, 0)
	i := trial.Whole(0, 2)
	for _, p := range []api.Poly{{big, one}, {one, big}, {one, i, big}, {one, big, i}, {big, i, one}, {big, one, big, i}} {
		want, ok := numbers(p)
		got, e := refl.Down(p)
		if !ok || e != api.OK || !alike(got, want) {
			t.Errorf("P12.1: Down at MaxLimbs of %d places: %d", len(p), e)
		}
		if yes, e := refl.Tells(p); yes != within(want) || e != api.OK {
			t.Errorf("P12.4: Tells at MaxLimbs of %d places: %v, %d", len(p), yes, e)
		}
		list := []api.Gauss(p)[:2]
		if p, e := refl.Up(list); e != api.OK || !trial.AlikePoly(p, grown(trial.ValuePoly(list))) {
			t.Errorf("P12.2: Up at MaxLimbs: %d", e)
		}
	}
	// All coefficients alike: the magnitude is 1 at once.
	all := slices.Repeat(api.Poly{big}, api.MaxRoots+1)
	if _, e := refl.Down(all); e != api.ErrUnstable {
		t.Errorf("P12.1: Down of coefficients that are all alike: %d", e)
	}
	if yes, e := refl.Tells(all); yes || e != api.OK {
		t.Errorf("P12.4: Tells of coefficients that are all alike: %v, %d", yes, e)
	}
	// The last one far greater than all others together: no root lies far from nought.
	all[api.MaxRoots] = api.Gauss{Re: api.Rat{Num: trial.Ones(api.MaxLimbs, 1<<64-1), Den: []uint64{1}}, Im: trial.Frac(0, 1)}
	for i := range api.MaxRoots {
		all[i] = api.Gauss{Re: api.Rat{Num: append(trial.Ones(api.MaxLimbs-2, uint64(i+3)), 7), Den: []uint64{1}}, Im: big.Im}
	}
	if yes, e := refl.Tells(all); !yes || e != api.OK {
		t.Errorf("P12.4: Tells of degree MaxRoots at MaxLimbs: %v, %d", yes, e)
	}
	all[0], all[api.MaxRoots] = all[api.MaxRoots], all[0]
	if yes, e := refl.Tells(all); yes || e != api.OK {
		t.Errorf("P12.4: Tells of degree MaxRoots at MaxLimbs, the other way round: %v, %d", yes, e)
	}
}

func TestFarApart(t *testing.T) {
	// Floats of all sizes: there and back by numbers of thousands of bits.
	mix := trial.Mixer(8)
	var p api.Poly
	for range api.MaxRoots + 1 {
		z := mix.Numbers(1, mix.Float)[0]
		for !trial.Finite(real(z)) || !trial.Finite(imag(z)) || z == 0 {
			z = mix.Numbers(1, mix.Float)[0]
		}
		p = append(p, trial.Exactly(z).Gauss())
	}
	list, e := refl.Down(p)
	if back, f := refl.Up(list); e != api.OK || f != api.OK || !trial.AlikePoly(back, monic(p)) {
		t.Errorf("P12.3: Up(Down(%v)): %d, %d", p, e, f)
	}
}

func TestMemory(t *testing.T) {
	third := api.Gauss{Re: trial.Frac(1, 3), Im: trial.Frac(1, 3)}
	wide := api.Gauss{Re: api.Rat{Num: []uint64{1, 2}, Den: []uint64{3, 5}}, Im: trial.Frac(-7, 2)}
	lists := []trial.Numbers{{}, trial.Numbers(trial.Reals(1)), trial.Numbers(trial.Reals(0, 1)), trial.Numbers(trial.Reals(1, 2, 1)), trial.Numbers(trial.Reals(2, -5, 2)), trial.Numbers(trial.Reals(1, 2, 4)), trial.Numbers(trial.Reals(0, 0, 0, 1)), {third, third, third}, {third, trial.Whole(1, 0)}, {wide, third, trial.Whole(0, 1)}, {wide, wide, trial.Whole(0, 0), wide, trial.Whole(2, 1)}, trial.Numbers(trial.Reals(1, 0))}
	for name, call := range calls() {
		told := func(args []trial.Numbers) []trial.Numbers {
			got, e := call(args[0])
			return []trial.Numbers{got, {trial.Whole(int64(e), 0)}}
		}
		for _, list := range lists {
			if fault := trial.Touched(told, list); fault != "" {
				t.Errorf("Memory: %s(%v): %s", name, list, fault)
			}
		}
		if fault := trial.Beside(told, lists[10]); fault != "" {
			t.Errorf("P2: %s: %s", name, fault)
		}
	}
}

func TestNearMemory(t *testing.T) {
	near := func(args [][]complex128) [][]complex128 {
		p := make(api.Poly, len(args[0]))
		for i, z := range args[0] {
			p[i] = trial.Exactly(z).Gauss()
		}
		list, _ := refl.Near(p)
		return [][]complex128{list}
	}
	if fault := trial.TouchedLists(near, []complex128{1, complex(2, 3), complex(-1, 5), 7}); fault != "" {
		t.Errorf("Memory: Near: %s", fault)
	}
}

func TestNilAndEmptyAreTheSame(t *testing.T) {
	p := trial.Reals(-1, 0, 2)
	p[1].Re.Num, p[1].Im.Num = []uint64{}, nil
	want := []trial.Complex{trial.Fraction(0, 0, 1), trial.Fraction(-1, 0, 2)}
	if list, e := refl.Down(p); e != api.OK || !alike(list, want) {
		t.Errorf("Words: Down(%v) = %v, %d", p, list, e)
	}
	if q, e := refl.Up(p[:2]); e != api.OK || !trial.AlikePoly(q, trial.Reals(0, -1, 1)) {
		t.Errorf("Words: Up(%v) = %v, %d", p[:2], q, e)
	}
}
