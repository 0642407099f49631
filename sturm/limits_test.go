package sturm_test

import (
	"slices"
	"testing"

	"quaver/api"
	"quaver/sturm"
	"quaver/trial"
)

func ranged(p api.Poly, a, b api.Rat) api.Errno {
	return fault(counted(sturm.Between(p, a, b)))
}

// check: does every call answer this error of a polynomial that may not be handed in?
func check(t *testing.T, bad api.Poly, want api.Errno) {
	t.Helper()
	for name, call := range calls() {
		if e := fault(call(bad)); e != want {
			t.Errorf("Errors: %s of %d places: %d, want %d", name, len(bad), e, want)
		}
	}
	checkRanged(t, bad, want)
}

// checkRanged: which error of Between goes first, beside a polynomial that may not be handed in?
func checkRanged(t *testing.T, bad api.Poly, want api.Errno) {
	t.Helper()
	low, high, wrong, long := trial.Frac(-1, 3), trial.Frac(1, 2), trial.Wrong()[1], trial.Long()[0]
	for _, c := range []struct {
		a, b api.Rat
		want api.Errno
	}{
		{low, high, want}, {low, low, want}, {high, low, api.ErrArg}, {wrong, low, min(want, api.ErrForm)}, {high, wrong, min(want, api.ErrForm)}, {long, low, api.ErrLong}, {high, long, api.ErrLong}, {wrong, long, api.ErrLong}, {long, wrong, api.ErrLong},
	} {
		if e := ranged(bad, c.a, c.b); e != c.want {
			t.Errorf("Errors: Between of %d places, %v of %d limbs, %v of %d limbs: %d, want %d", len(bad), c.a.Neg, len(c.a.Num), c.b.Neg, len(c.b.Num), e, c.want)
		}
	}
}

func TestWrongPolynomials(t *testing.T) {
	check(t, nil, api.ErrZero)
	check(t, api.Poly{}, api.ErrZero)
	check(t, trial.Reals(0), api.ErrForm)
	check(t, trial.Reals(1, 2, 0), api.ErrForm)
	check(t, make(api.Poly, api.MaxRoots+1), api.ErrForm)
	one := trial.Whole(1, 0)
	for _, bad := range trial.Either(trial.Wrong()) {
		check(t, api.Poly{bad}, api.ErrForm)
		check(t, api.Poly{one, bad}, api.ErrForm)
		check(t, api.Poly{bad, one}, api.ErrForm)
	}
	for _, bad := range trial.Either(trial.Long()) {
		check(t, api.Poly{bad}, api.ErrLong)
		check(t, api.Poly{one, bad, one}, api.ErrLong)
		check(t, api.Poly{{}, bad, trial.Whole(0, 0)}, api.ErrLong)
		check(t, api.Poly{trial.Whole(0, 1), bad, one}, api.ErrLong)
	}
}

func TestDegrees(t *testing.T) {
	full, more := trial.Sparse(api.MaxRoots, 3, 0), trial.Sparse(api.MaxRoots+1, 3, 0)
	for name, call := range calls() {
		if e := fault(call(full)); e != api.OK {
			t.Errorf("Errors: %s of degree MaxRoots: %d", name, e)
		}
	}
	check(t, more, api.ErrLong)
	check(t, append(slices.Clone(full), trial.Whole(0, 0)), api.ErrLong)
	check(t, make(api.Poly, api.MaxRoots+2), api.ErrLong)
	check(t, trial.Sparse(api.MaxRoots+1, 0, 1), api.ErrLong)
	check(t, trial.Sparse(api.MaxDegree+1, 1, 0), api.ErrLong)
	check(t, make(api.Poly, 100000), api.ErrLong)
}

func TestCoefficientsThatAreNotReal(t *testing.T) {
	for _, p := range []api.Poly{
		{trial.Whole(0, 1)}, {trial.Whole(1, -1)}, trial.Lines(trial.Fraction(0, 1, 1)), {trial.Whole(1, 0), trial.Whole(1, 1)}, {trial.Whole(1, 0), trial.Whole(0, 1), trial.Whole(1, 0)}, trial.Sparse(api.MaxRoots, 0, 5),
		{{Re: trial.Frac(1, 1), Im: trial.Sum(trial.Up(-5000))}, trial.Whole(1, 0)},
		trial.Multiplied(trial.Reals(-2, 0, 1), api.Poly{trial.Whole(0, 1)}), // real but for a factor
	} {
		for name, call := range calls() {
			want := api.OK
			if realOnly(name) {
				want = api.ErrForm
			}
			if e := fault(call(p)); e != want {
				t.Errorf("Errors: %s(%v): %d, want %d", name, p, e, want)
			}
		}
		checkRanged(t, p, api.ErrForm)
	}
}

func TestWrongBounds(t *testing.T) {
	zero := trial.Frac(0, 1)
	for _, p := range []api.Poly{trial.Reals(1), trial.Reals(-2, 0, 1), nil, trial.Reals(1, 0), {trial.Whole(0, 1)}} {
		for _, bad := range trial.Wrong() {
			for _, pair := range [][2]api.Rat{{bad, zero}, {zero, bad}, {bad, bad}} {
				if e := ranged(p, pair[0], pair[1]); e != api.ErrForm {
					t.Errorf("Errors: Between(%v, %v): %d, want ErrForm", p, pair, e)
				}
			}
		}
		for _, bad := range trial.Long() {
			for _, pair := range [][2]api.Rat{{bad, zero}, {zero, bad}, {bad, bad}, {bad, trial.Wrong()[0]}, {trial.Wrong()[0], bad}} {
				if e := ranged(p, pair[0], pair[1]); e != api.ErrLong {
					t.Errorf("Errors: Between(%v, long numbers): %d, want ErrLong", p, e)
				}
			}
		}
		// Just so long they may be, and then the order of the two goes first.
		full := api.Rat{Num: trial.Ones(api.MaxLimbs, 3), Den: []uint64{1}}
		if e := ranged(p, full, zero); e != api.ErrArg {
			t.Errorf("Errors: Between(%v, MaxLimbs limbs, 0): %d, want ErrArg", p, e)
		}
	}
}

// remember: every call, of a polynomial and two numbers behind it; counts are told as numbers.
func remember() map[string]trial.Call {
	tell := func(a answer, e api.Errno) []trial.Numbers {
		all := []trial.Numbers{{trial.Whole(int64(e), 0)}}
		for _, p := range a.polys {
			all = append(all, trial.Numbers(p))
		}
		for _, n := range a.counts {
			all = append(all, trial.Numbers{trial.Whole(int64(n), 0)})
		}
		return all
	}
	list := map[string]trial.Call{}
	for name, call := range calls() {
		list[name] = func(args []trial.Numbers) []trial.Numbers { return tell(call(api.Poly(args[0]))) }
	}
	list["Between"] = func(args []trial.Numbers) []trial.Numbers {
		return tell(counted(sturm.Between(api.Poly(args[0]), args[1][0].Re, args[1][0].Im)))
	}
	return list
}

func TestMemory(t *testing.T) {
	third := api.Gauss{Re: trial.Frac(1, 3), Im: trial.Frac(1, 3)}
	polys := []api.Poly{{}, trial.Reals(1), trial.Reals(0, 1), trial.Reals(1, 1), trial.Reals(1, 2, 1), trial.Reals(2, -5, 2), trial.Reals(-1, 0, 3, 1), {third, third, third}, {third, trial.Whole(1, 0)}, {{Re: trial.Frac(1, 3), Im: trial.Frac(0, 1)}, trial.Whole(1, 0)}, trial.Reals(1, 0)}
	ranges := []api.Gauss{{Re: trial.Frac(0, 1), Im: trial.Frac(1, 1)}, {Re: trial.Frac(1, 3), Im: trial.Frac(1, 3)}, {Re: trial.Frac(1, 2), Im: trial.Frac(-1, 2)}, {Re: trial.Frac(-7, 2), Im: api.Rat{Num: []uint64{1, 2}, Den: []uint64{3, 5}}}}
	for name, call := range remember() {
		for _, p := range polys {
			for _, r := range ranges {
				if fault := trial.Touched(call, trial.Numbers(p), trial.Numbers{r}); fault != "" {
					t.Errorf("Memory: %s(%v, %v): %s", name, p, r, fault)
				}
			}
		}
		if fault := trial.Beside(call, trial.Numbers(trial.Reals(-6, 1, 0, 5, -5, 1)), trial.Numbers(ranges[3:])); fault != "" {
			t.Errorf("P2: %s: %s", name, fault)
		}
	}
}
