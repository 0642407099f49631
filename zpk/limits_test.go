package zpk_test

import (
	"slices"
	"testing"

	"quaver/api"
	"quaver/trial"
	"quaver/zpk"
)

// check: does every call answer this error of f, with zero values beside it?
func check(t *testing.T, f api.Zpk, want api.Errno) {
	t.Helper()
	for name, call := range calls() {
		zero, e := call(f)
		if e != want || e != api.OK && !zero {
			t.Errorf("Errors: %s of %d zeros, %d poles and the gain %v: %d, want %d", name, len(f.Zeros), len(f.Poles), f.Gain, e, want)
		}
	}
}

func TestCounts(t *testing.T) {
	for _, zeros := range []int{0, 1, 23, 24, 25, 26, 1000} {
		for _, poles := range []int{0, 24, 25, 70000} {
			want := api.OK
			if zeros > api.MaxRoots || poles > api.MaxRoots {
				want = api.ErrLong
			}
			f := api.Zpk{Zeros: make([]complex128, zeros), Poles: make([]complex128, poles), Gain: 1}
			check(t, f, want)
			// The lesser number goes first.
			if want == api.OK {
				want = api.ErrNaN
			}
			f.Gain = complex(0, nan)
			check(t, f, want)
			if want == api.ErrLong {
				f.Zeros, f.Poles = slices.Repeat(list(f.Gain), zeros), slices.Repeat(list(f.Gain), poles)
				f.Gain = 0
				check(t, f, api.ErrLong)
			}
		}
	}
}

func TestNumbersThatAreNotFinite(t *testing.T) {
	for _, bad := range trial.Endless() {
		check(t, api.Zpk{Gain: bad}, api.ErrNaN)
		for _, place := range []int{0, 1, api.MaxRoots - 1} {
			numbers := slices.Repeat(list(0.5), api.MaxRoots)
			numbers[place] = bad
			check(t, api.Zpk{Zeros: numbers, Gain: 1}, api.ErrNaN)
			check(t, api.Zpk{Poles: numbers, Gain: 1}, api.ErrNaN)
			check(t, api.Zpk{Zeros: numbers, Poles: numbers, Gain: bad}, api.ErrNaN)
			// A gain of nought goes ahead of it, where it is an error.
			for _, nought := range trial.Noughts() {
				f := api.Zpk{Zeros: numbers, Gain: nought}
				if g, e := zpk.Over(f); e != api.ErrZero || !bare(g) {
					t.Errorf("Errors: Over of a NaN and the gain 0: %v, %d, want ErrZero", g, e)
				}
				if e := zpk.Check(f); e != api.ErrNaN {
					t.Errorf("P13.1: Check of a NaN and the gain 0: %d, want ErrNaN", e)
				}
			}
			// It goes ahead of an inverse beyond the greatest.
			if _, e := zpk.Over(api.Zpk{Poles: numbers, Gain: trial.Least}); e != api.ErrNaN {
				t.Errorf("Errors: Over of a NaN and a gain that is too little: %d, want ErrNaN", e)
			}
		}
	}
}

func TestFiniteNumbersAreFilters(t *testing.T) {
	for _, z := range slices.Concat(trial.Noughts(), trial.Signs(trial.Greatest, trial.Least), trial.Signs(1, trial.Greatest), trial.Signs(trial.LeastNormal, 3)) {
		for _, f := range []api.Zpk{{}, {Gain: z}, {Zeros: list(z)}, {Poles: list(z)}, {Zeros: slices.Repeat(list(z), 24), Poles: slices.Repeat(list(z), 24), Gain: z}} {
			if e := zpk.Check(f); e != api.OK {
				t.Errorf("P13.1: Check(%x) = %d", f, e)
			}
		}
	}
}

func TestMemory(t *testing.T) {
	for name, made := range makers() {
		call := func(args [][]complex128) [][]complex128 {
			f, e := made(api.Zpk{Zeros: args[0], Poles: args[1], Gain: complex(3, -4)})
			return [][]complex128{f.Zeros, f.Poles, list(f.Gain, complex(float64(e), 0))}
		}
		for _, c := range [][2][]complex128{{nil, nil}, {{}, {}}, {list(1, 2, 1), list(1, 3)}, {list(1, 2), list(2, 1)}, {list(0.5), list(4, 0.25, complex(0, 3))}, {list(3, 2, 1), nil}, {nil, list(3, 0.1, 1)}, {list(complex(nan, 0)), list(1)}} {
			if fault := trial.TouchedLists(call, c[0], c[1]); fault != "" {
				t.Errorf("Memory: %s(%v): %s", name, c, fault)
			}
		}
		if fault := trial.BesideLists(call, list(1, 2, 3), list(0.5, 7, 3)); fault != "" {
			t.Errorf("P2: %s: %s", name, fault)
		}
	}
	// One filter behind itself.
	twice := func(args [][]complex128) [][]complex128 {
		f := api.Zpk{Zeros: args[0], Poles: args[1], Gain: 2}
		g, _ := zpk.Series(f, f)
		zpk.Check(f)
		zpk.Real(f)
		zpk.Stable(f)
		return [][]complex128{g.Zeros, g.Poles}
	}
	if fault := trial.TouchedLists(twice, list(complex(2, 1), complex(2, -1)), list(0.5, 0.25)); fault != "" {
		t.Errorf("Memory: Series of a filter and itself: %s", fault)
	}
}

func TestPolysMemory(t *testing.T) {
	call := func(args []trial.Numbers) []trial.Numbers {
		var roots []complex128
		for _, g := range args[0] {
			roots = append(roots, trial.ValueGauss(g).Near())
		}
		num, den, _ := zpk.Polys(api.Zpk{Zeros: roots, Poles: roots, Gain: 1})
		return []trial.Numbers{trial.Numbers(num), trial.Numbers(den)}
	}
	for _, p := range []api.Poly{nil, trial.Reals(0), trial.Reals(1, 2, 1), {trial.Whole(3, -4), trial.Whole(0, 1)}} {
		if fault := trial.Touched(call, trial.Numbers(p)); fault != "" {
			t.Errorf("Memory: Polys of %v: %s", p, fault)
		}
	}
	lists := func(args [][]complex128) [][]complex128 {
		zpk.Polys(api.Zpk{Zeros: args[0], Poles: args[1], Gain: 1})
		return nil
	}
	if fault := trial.TouchedLists(lists, list(1, 2), list(3)); fault != "" {
		t.Errorf("Memory: Polys: %s", fault)
	}
}
