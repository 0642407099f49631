package poly_test

import (
	"slices"
	"testing"

	"quaver/api"
	"quaver/poly"
	"quaver/trial"
)

// check: does every call answer this error of a polynomial that may not be handed in?
func check(t *testing.T, bad api.Poly, want api.Errno) {
	t.Helper()
	for name, call := range singles() {
		if name == "Star" && len(bad) > api.MaxDegree+1 {
			continue // which asks for n first
		}
		if e := fault(call(bad)); e != want {
			t.Errorf("Errors: %s of %d places: %d, want %d", name, len(bad), e, want)
		}
	}
	for name, call := range doubles() {
		for _, other := range []api.Poly{trial.Reals(1, 1), bad, nil} {
			if e := fault(call(bad, other)); e != want {
				t.Errorf("Errors: %s of %d places and others: %d, want %d", name, len(bad), e, want)
			}
			if e := fault(call(other, bad)); e != want {
				t.Errorf("Errors: %s of others and %d places: %d, want %d", name, len(bad), e, want)
			}
		}
	}
	for name, call := range mixeds() {
		for _, g := range []api.Gauss{trial.Whole(0, 0), trial.Whole(2, 1)} {
			if e := fault(call(bad, g)); e != want {
				t.Errorf("Errors: %s of %d places: %d, want %d", name, len(bad), e, want)
			}
		}
	}
}

func TestWrongPolynomials(t *testing.T) {
	check(t, trial.Reals(0), api.ErrForm)
	check(t, trial.Reals(1, 2, 0), api.ErrForm)
	check(t, make(api.Poly, 3), api.ErrForm)
	for _, bad := range trial.Either(trial.Wrong()) {
		check(t, of(bad), api.ErrForm)
		check(t, of(frac(1, 1), bad, frac(1, 1)), api.ErrForm)
		check(t, of(frac(1, 1), bad), api.ErrForm)
		for name, call := range mixeds() {
			for _, p := range []api.Poly{nil, trial.Reals(1, 1), trial.Reals(1, 0)} {
				if e := fault(call(p, bad)); e != api.ErrForm {
					t.Errorf("Errors: %s of %d places and %v: %d, want ErrForm", name, len(p), bad, e)
				}
			}
		}
		for name, call := range listeds() {
			for _, list := range [][]api.Gauss{{bad}, {frac(1, 1), bad}, {bad, frac(0, 1)}} {
				if e := fault(call(list)); e != api.ErrForm {
					t.Errorf("Errors: %s of a list with %v: %d, want ErrForm", name, bad, e)
				}
			}
		}
	}
}

func TestLongNumbers(t *testing.T) {
	wrong := api.Gauss{Re: trial.Wrong()[12], Im: trial.Frac(1, 1)}
	for _, bad := range trial.Either(trial.Long()) {
		check(t, of(bad), api.ErrLong)
		check(t, of(wrong, bad, frac(1, 1)), api.ErrLong)
		check(t, of(bad, wrong, frac(0, 1)), api.ErrLong)
		for name, call := range mixeds() {
			for _, p := range []api.Poly{nil, trial.Reals(1, 1), trial.Reals(1, 0), of(wrong)} {
				if e := fault(call(p, bad)); e != api.ErrLong {
					t.Errorf("Errors: %s of %d places and a long number: %d, want ErrLong", name, len(p), e)
				}
			}
		}
		for name, call := range listeds() {
			for _, list := range [][]api.Gauss{{bad}, {wrong, bad}, {bad, wrong}} {
				if e := fault(call(list)); e != api.ErrLong {
					t.Errorf("Errors: %s of a list with a long number: %d, want ErrLong", name, e)
				}
			}
		}
	}
}

func TestLongPolynomials(t *testing.T) {
	full, more := high(api.MaxDegree), high(api.MaxDegree+1)
	check(t, more, api.ErrLong)
	check(t, append(slices.Clone(full), trial.Whole(0, 0)), api.ErrLong)
	check(t, make(api.Poly, api.MaxDegree+2), api.ErrLong)
	check(t, make(api.Poly, 100000), api.ErrLong)
	// What is wrong beside what is too long does not go first.
	for name, call := range doubles() {
		for _, wrong := range []api.Poly{trial.Reals(1, 0), make(api.Poly, 2)} {
			e, f := fault(call(more, wrong)), fault(call(wrong, more))
			if e != api.ErrLong || f != api.ErrLong {
				t.Errorf("Errors: %s of a long polynomial beside a wrong one: %d, %d", name, e, f)
			}
		}
	}
	for name, call := range mixeds() {
		if e := fault(call(more, api.Gauss{})); e != api.ErrLong {
			t.Errorf("Errors: %s of a long polynomial beside a wrong number: %d", name, e)
		}
	}
	for name, call := range listeds() {
		if e := fault(call(make([]api.Gauss, api.MaxDegree+2))); e != api.ErrLong {
			t.Errorf("Errors: %s of a long list of wrong numbers: %d", name, e)
		}
	}
	for name, call := range singles() {
		if e := fault(call(full)); e != api.OK {
			t.Errorf("Errors: %s at MaxDegree: %d", name, e)
		}
	}
	for name, call := range doubles() {
		if e := fault(call(full, full)); e != api.OK {
			t.Errorf("Errors: %s at MaxDegree: %d", name, e)
		}
	}
	for name, call := range mixeds() {
		if e := fault(call(full, frac(2, 3))); e != api.OK {
			t.Errorf("Errors: %s at MaxDegree: %d", name, e)
		}
	}
}

func TestAtTheLimits(t *testing.T) {
	full := high(api.MaxDegree)
	if p, e := poly.Mul(full, full); e != api.OK || len(p) != 2*api.MaxDegree+1 {
		t.Errorf("P6.2: Mul at MaxDegree has %d places, %d", len(p), e)
	} else if _, e := poly.Derive(p); e != api.ErrLong {
		t.Errorf("P6.3: Derive of an answer beyond MaxDegree: %d", e)
	}
	wide := api.Gauss{Re: api.Rat{Num: trial.Ones(api.MaxLimbs, 1<<64-1), Den: []uint64{1}}, Im: api.Rat{Neg: true, Num: []uint64{1}, Den: append(make([]uint64, api.MaxLimbs-1), 1<<63)}}
	p := of(wide, frac(1, 1), wide)
	if q, e := poly.Mul(p, p); e != api.OK || !trial.AlikePoly(q, product(p, p)) || len(q[4].Re.Num) <= api.MaxLimbs {
		t.Errorf("P6.2: Mul at MaxLimbs has %d places, %d", len(q), e)
	} else if _, e := poly.Make(q); e != api.ErrLong {
		t.Errorf("P6.1: Make of an answer beyond MaxLimbs: %d", e)
	}
	if q, e := poly.Make(p); e != api.OK || !trial.AlikePoly(q, p) {
		t.Errorf("P6.1: Make at MaxLimbs: %d", e)
	}
	root := of(wide, frac(1, 1))
	minus := trial.ValueGauss(trial.Whole(0, 0)).Sub(trial.ValueGauss(wide)).Gauss()
	if q, e := poly.Roots([]api.Gauss{minus, minus}); e != api.OK || !trial.AlikePoly(q, product(root, root)) {
		t.Errorf("P6.4: Roots at MaxLimbs: %d", e)
	}
	if q, e := poly.Gcd(root, of(frac(1, 1), wide)); e != api.OK || !trial.AlikePoly(q, trial.Reals(1)) {
		t.Errorf("P6.4: Gcd at MaxLimbs: %d places, %d", len(q), e)
	}
	if q, e := poly.Gcd(root, root); e != api.OK || !trial.AlikePoly(q, root) {
		t.Errorf("P6.4: Gcd of one with itself at MaxLimbs: %d places, %d", len(q), e)
	}
	if list, e := poly.Square(root); e != api.OK || !trial.AlikePolys(list, []api.Poly{root}) {
		t.Errorf("P6.6: Square at MaxLimbs: %d powers, %d", len(list), e)
	}
}

func TestNilAndEmptyAreTheSame(t *testing.T) {
	for name, call := range singles() {
		a, e := call(nil)
		b, f := call(api.Poly{})
		if e != f || !trial.AlikePolys(a, b) {
			t.Errorf("Words: %s tells nil and empty apart: %d, %d", name, e, f)
		}
	}
	for name, call := range listeds() {
		a, e := call(nil)
		b, f := call([]api.Gauss{})
		if e != api.OK || f != api.OK || !trial.AlikePolys(a, b) {
			t.Errorf("Words: %s tells nil and empty apart: %d, %d", name, e, f)
		}
	}
}

// calls: every call that answers exact numbers, of two polynomials; of the second one the first coefficient is a number, too.
func calls() map[string]trial.Call {
	answer := func(list []api.Poly, _ api.Errno) []trial.Numbers {
		var all []trial.Numbers
		for _, p := range list {
			all = append(all, trial.Numbers(p))
		}
		return all
	}
	number := func(list trial.Numbers) api.Gauss {
		if len(list) == 0 {
			return trial.Whole(1, 0)
		}
		return list[0]
	}
	list := map[string]trial.Call{
		"From": func([]trial.Numbers) []trial.Numbers { return answer(one(poly.From([]complex128{1, 1, 0}))) },
		"Form": func(args []trial.Numbers) []trial.Numbers { poly.Form(api.Poly(args[0])); return nil },
	}
	for name, call := range singles() {
		list[name] = func(args []trial.Numbers) []trial.Numbers { return answer(call(api.Poly(args[0]))) }
	}
	for name, call := range doubles() {
		list[name] = func(args []trial.Numbers) []trial.Numbers { return answer(call(api.Poly(args[0]), api.Poly(args[1]))) }
	}
	for name, call := range mixeds() {
		list[name] = func(args []trial.Numbers) []trial.Numbers { return answer(call(api.Poly(args[0]), number(args[1]))) }
	}
	for name, call := range listeds() {
		list[name] = func(args []trial.Numbers) []trial.Numbers { return answer(call(args[0])) }
	}
	return list
}

func TestMemory(t *testing.T) {
	third := api.Gauss{Re: trial.Frac(1, 3), Im: trial.Frac(1, 3)}
	polys := []api.Poly{{}, trial.Reals(1), trial.Reals(0, 1), trial.Reals(1, 1), trial.Reals(1, 2, 1), trial.Reals(-1, 0, 1), of(third), of(third, third, trial.Whole(1, 0)), of(trial.Whole(0, 0), third), trial.Reals(0, 0, 0, 5), power(trial.Reals(-1, 1), 4)}
	for name, call := range calls() {
		for _, p := range polys {
			for _, q := range polys {
				if fault := trial.Touched(call, trial.Numbers(p), trial.Numbers(q)); fault != "" {
					t.Errorf("Memory: %s(%v, %v): %s", name, p, q, fault)
				}
			}
		}
		if fault := trial.Beside(call, trial.Numbers(polys[7]), trial.Numbers(polys[5])); fault != "" {
			t.Errorf("P2: %s: %s", name, fault)
		}
	}
}
