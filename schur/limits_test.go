package schur_test

import (
	"slices"
	"testing"

	"quaver/api"
	"quaver/schur"
	"quaver/trial"
)

// check: does every call answer this error of a polynomial that may not be handed in?
func check(t *testing.T, bad api.Poly, want api.Errno) {
	t.Helper()
	for name, call := range calls() {
		if e := fault(call(bad)); e != want {
			t.Errorf("Errors: %s of %d places: %d, want %d", name, len(bad), e, want)
		}
	}
	// A radius that is not above nought goes first, one that is too long or not in form by its number.
	for _, r := range []api.Rat{trial.Frac(0, 1), trial.Frac(-1, 3)} {
		if e := fault(within(bad, r)); e != api.ErrArg {
			t.Errorf("Errors: Within(%d places, %v): %d, want ErrArg", len(bad), r, e)
		}
	}
	if e := fault(within(bad, trial.Long()[0])); e != api.ErrLong {
		t.Errorf("Errors: Within(%d places, a long number): %d, want ErrLong", len(bad), e)
	}
	if e := fault(within(bad, trial.Wrong()[0])); e != min(want, api.ErrForm) {
		t.Errorf("Errors: Within(%d places, a wrong number): %d, want %d", len(bad), e, min(want, api.ErrForm))
	}
}

func TestWrongPolynomials(t *testing.T) {
	check(t, nil, api.ErrZero)
	check(t, api.Poly{}, api.ErrZero)
	check(t, trial.Reals(0), api.ErrForm)
	check(t, trial.Reals(1, 2, 0), api.ErrForm)
	check(t, make(api.Poly, api.MaxRoots+1), api.ErrForm)
	one := trial.Whole(1, 0)
	for _, bad := range trial.Either(trial.Wrong()) {
		check(t, api.Poly{bad}, api.ErrForm)
		check(t, api.Poly{one, bad}, api.ErrForm)
		check(t, api.Poly{bad, one}, api.ErrForm)
	}
	for _, bad := range trial.Either(trial.Long()) {
		check(t, api.Poly{bad}, api.ErrLong)
		check(t, api.Poly{one, bad, one}, api.ErrLong)
		check(t, api.Poly{{}, bad, trial.Whole(0, 0)}, api.ErrLong)
	}
}

func TestDegrees(t *testing.T) {
	full, more := trial.Sparse(api.MaxRoots, 3, 0), trial.Sparse(api.MaxRoots+1, 3, 0)
	for name, call := range calls() {
		if e := fault(call(full)); e != api.OK {
			t.Errorf("Errors: %s of degree MaxRoots: %d", name, e)
		}
	}
	check(t, more, api.ErrLong)
	check(t, append(slices.Clone(full), trial.Whole(0, 0)), api.ErrLong)
	check(t, make(api.Poly, api.MaxRoots+2), api.ErrLong)
	check(t, trial.Sparse(api.MaxDegree+1, 1, 0), api.ErrLong)
	check(t, make(api.Poly, 100000), api.ErrLong)
}

func TestWrongRadius(t *testing.T) {
	polys := []api.Poly{trial.Reals(1), trial.Reals(1, 1), trial.Reals(1, 0), nil, {{}}}
	for _, p := range polys {
		for _, r := range trial.Wrong() {
			if e := fault(within(p, r)); e != api.ErrForm {
				t.Errorf("Errors: Within(%v, %v): %d, want ErrForm", p, r, e)
			}
		}
		for _, r := range trial.Long() {
			if e := fault(within(p, r)); e != api.ErrLong {
				t.Errorf("Errors: Within(%v, a long number): %d, want ErrLong", p, e)
			}
		}
		// One limb less is not too long: below nought it goes first.
		least := api.Rat{Neg: true, Num: trial.Ones(api.MaxLimbs, 7), Den: []uint64{1}}
		if e := fault(within(p, least)); e != api.ErrArg {
			t.Errorf("Errors: Within(%v, a number below nought of MaxLimbs): %d, want ErrArg", p, e)
		}
		least.Num = append(least.Num, 7)
		if e := fault(within(p, least)); e != api.ErrLong {
			t.Errorf("Errors: Within(%v, a number below nought of one limb more): %d, want ErrLong", p, e)
		}
	}
}

// remember: every call, of a polynomial and a number behind it; what is answered is told as numbers.
func remember() map[string]trial.Call {
	list := map[string]trial.Call{}
	tell := func(counts []int, e api.Errno) []trial.Numbers {
		all := trial.Numbers{trial.Whole(int64(e), 0)}
		for _, n := range counts {
			all = append(all, trial.Whole(int64(n), 0))
		}
		return []trial.Numbers{all}
	}
	for name, call := range calls() {
		list[name] = func(args []trial.Numbers) []trial.Numbers { return tell(call(api.Poly(args[0]))) }
	}
	list["Within"] = func(args []trial.Numbers) []trial.Numbers {
		return tell(within(api.Poly(args[0]), args[1][0].Re))
	}
	return list
}

func TestMemory(t *testing.T) {
	third := api.Gauss{Re: trial.Frac(1, 3), Im: trial.Frac(1, 3)}
	polys := []api.Poly{{}, trial.Reals(1), trial.Reals(0, 1), trial.Reals(1, 2, 1), trial.Reals(2, -5, 2), trial.Reals(-1, 3, 1), {third, third, third}, {third, trial.Whole(1, 0)}, trial.Reals(1, 0)}
	for name, call := range remember() {
		for _, p := range polys {
			for _, r := range []api.Rat{trial.Frac(1, 1), trial.Frac(2, 3), trial.Frac(0, 1), {Num: []uint64{1, 2}, Den: []uint64{3, 5}}} {
				if fault := trial.Touched(call, trial.Numbers(p), trial.Numbers{{Re: r}}); fault != "" {
					t.Errorf("Memory: %s(%v, %v): %s", name, p, r, fault)
				}
			}
		}
		if fault := trial.Beside(call, trial.Numbers(trial.Lines(edges()[8]...)), trial.Numbers{{Re: trial.Frac(2, 3)}}); fault != "" {
			t.Errorf("P2: %s: %s", name, fault)
		}
	}
}

func TestNilAndEmptyAreTheSame(t *testing.T) {
	p := trial.Reals(-1, 0, 2)
	p[1].Re.Num, p[1].Im.Num = []uint64{}, nil
	if got, e := count(p); got != [3]int{2, 0, 0} || e != api.OK {
		t.Errorf("Words: Count(%v) = %v, %d", p, got, e)
	}
	if n, e := schur.Within(p, api.Rat{Num: []uint64{}, Den: []uint64{1}}); n != 0 || e != api.ErrArg {
		t.Errorf("Words: Within(.., 0) = %d, %d", n, e)
	}
}
