package biquad_test

import (
	"slices"
	"testing"

	"quaver/api"
	"quaver/biquad"
	"quaver/trial"
)

func TestTooManyRoots(t *testing.T) {
	bad := complex(0, nan)
	for zeros := range 5 {
		for poles := range 5 {
			want := api.OK
			if zeros > 2 || poles > 2 {
				want = api.ErrLong
			}
			s, e := biquad.Of(group(make([]complex128, zeros), make([]complex128, poles)))
			if e != want || want != api.OK && !trial.AlikeSection(s, api.Section{}) {
				t.Errorf("Errors: Of %d zeros and %d poles: %v, %d, want %d", zeros, poles, s, e, want)
			}
			// Too many go ahead of a NaN, and of coefficients beyond the greatest.
			for _, numbers := range [][2]complex128{{bad, 1}, {1, bad}, {bad, bad}, {1e300, bad}, {1e300, 1e300}} {
				s, e := biquad.Of(group(slices.Repeat(numbers[:1], zeros), slices.Repeat(numbers[1:], poles)))
				if want == api.ErrLong && (e != api.ErrLong || !trial.AlikeSection(s, api.Section{})) {
					t.Errorf("Errors: Of %d zeros and %d poles, %v: %v, %d, want ErrLong", zeros, poles, numbers, s, e)
				}
			}
		}
	}
	s, e := biquad.Of(group(make([]complex128, 100000), nil))
	is(t, s, e, api.Section{}, api.ErrLong, "Errors: Of many zeros")
}

func TestRootsThatAreNotFinite(t *testing.T) {
	for _, bad := range trial.Endless() {
		// Beside it coefficients that are beyond the greatest.
		for _, two := range [][]complex128{list(bad), list(bad, 1), list(1, bad), list(bad, bad), list(bad, trial.Greatest)} {
			for _, other := range [][]complex128{nil, list(1, 2), list(1e300, 1e300)} {
				for _, g := range []api.Group{group(two, other), group(other, two), group(two, two)} {
					s, e := biquad.Of(g)
					is(t, s, e, api.Section{}, api.ErrNaN, "Errors: Of(%v)", g)
				}
			}
		}
	}
}

// refused: does Filter answer this error, and nothing else?
func refused(t *testing.T, f api.Zpk, want api.Errno) {
	t.Helper()
	got, e := biquad.Filter(f)
	if e != want || want != api.OK && !sameFilter(got, api.Filter{}) {
		t.Errorf("Errors: Filter of %d zeros, %d poles, the gain %v: %d sections, %d, want %d", len(f.Zeros), len(f.Poles), f.Gain, len(got.Sections), e, want)
	}
}

func TestErrorsOfFilter(t *testing.T) {
	apart := func(n int) []complex128 {
		var all []complex128
		for i := range n {
			all = append(all, complex(1, float64(i+1)))
		}
		return all
	}
	huge := slices.Repeat(list(complex(0, 1e300)), 2)
	for _, c := range []struct {
		zeros, poles int
		want         api.Errno
	}{{24, 24, api.ErrLong}, {16, 16, api.OK}, {17, 0, api.ErrLong}, {0, 17, api.ErrLong}, {0, 16, api.OK}, {25, 0, api.ErrLong}, {0, 25, api.ErrLong}} {
		refused(t, api.Zpk{Zeros: apart(c.zeros), Poles: apart(c.poles), Gain: 1}, c.want)
	}
	halves := slices.Repeat(list(0.5), 25)
	for _, n := range []int{23, 24, 25} {
		want, first := api.OK, api.ErrNaN
		if n > api.MaxRoots {
			want, first = api.ErrLong, api.ErrLong
		}
		refused(t, api.Zpk{Zeros: halves[:n], Gain: 1}, want)
		refused(t, api.Zpk{Poles: halves[:n], Gain: 1}, want)
		refused(t, api.Zpk{Zeros: halves[:n], Poles: halves[:n], Gain: complex(0, infinity)}, first)
	}
	for _, bad := range trial.Endless() {
		refused(t, api.Zpk{Gain: bad}, api.ErrNaN)
		refused(t, api.Zpk{Zeros: list(1, bad), Gain: 1}, api.ErrNaN)
		refused(t, api.Zpk{Poles: list(bad, 1), Gain: 1}, api.ErrNaN)
		// With too many groups, or a coefficient beyond the greatest.
		refused(t, api.Zpk{Poles: apart(17), Gain: bad}, api.ErrNaN)
		refused(t, api.Zpk{Poles: huge, Zeros: list(bad)}, api.ErrNaN)
		refused(t, api.Zpk{Poles: append(apart(16), bad)}, api.ErrNaN)
	}
	// Beyond the greatest: in the first section, in the last one, in zeros; behind too many groups.
	refused(t, api.Zpk{Poles: list(1, 2, 1e300, 1e300), Gain: 1}, api.ErrOver)
	refused(t, api.Zpk{Zeros: list(1e300, 1, 1e300), Gain: 1}, api.ErrOver)
	refused(t, api.Zpk{Zeros: list(1e200, -1e200), Poles: list(complex(0, 1e300), 1, 2), Gain: 1}, api.ErrOver)
	refused(t, api.Zpk{Poles: append(apart(16), 1e300, 1e300), Gain: 1}, api.ErrLong)
	refused(t, api.Zpk{Poles: append(apart(15), 1e300, 1e300), Gain: 1}, api.ErrOver)
}

// sections answers what Of and Filter do, in lists.
func sections(args [][]complex128) [][]complex128 {
	s, e := biquad.Of(group(args[0], args[1]))
	f, fault := biquad.Filter(api.Zpk{Zeros: args[0], Poles: args[1], Gain: complex(3, minus)})
	all := [][]complex128{trial.Row(s), list(complex(float64(e), float64(fault)), f.Gain)}
	for _, s := range f.Sections {
		all = append(all, trial.Row(s))
	}
	return all
}

func TestMemory(t *testing.T) {
	lists := [][]complex128{nil, {}, list(1), list(complex(0, 1), complex(0, -1)), list(3, 2, 1), list(1, complex(nan, 0)), list(1e300, 1e300), list(0.5, 0.5)}
	for _, a := range lists {
		for _, b := range lists {
			if fault := trial.TouchedLists(sections, a, b); fault != "" {
				t.Errorf("Memory: Of and Filter of %v and %v: %s", a, b, fault)
			}
		}
	}
	if fault := trial.BesideLists(sections, list(1, complex(2, 0.1)), list(0.5, 0.3)); fault != "" {
		t.Errorf("P2: Of and Filter: %s", fault)
	}
	// The sections of one filter, and their spare room, are no other's.
	f := api.Zpk{Zeros: list(1, 2, 3), Poles: list(0.5, 0.25, 0.125), Gain: 1}
	first, _ := biquad.Filter(f)
	want := slices.Clone(first.Sections)
	second, _ := biquad.Filter(f)
	clear(second.Sections[:cap(second.Sections)])
	if third, _ := biquad.Filter(f); !slices.EqualFunc(first.Sections, want, trial.AlikeSection) || !slices.EqualFunc(third.Sections, want, trial.AlikeSection) {
		t.Errorf("Memory: two answers of Filter share memory: %v, %v", first, third)
	}
}

func TestMemoryOfPolys(t *testing.T) {
	call := func(args []trial.Numbers) []trial.Numbers {
		var all []complex128
		for _, g := range args[0] {
			all = append(all, trial.ValueGauss(g).Near())
		}
		num, den, _ := biquad.Polys(trial.Section(all))
		return []trial.Numbers{trial.Numbers(num), trial.Numbers(den)}
	}
	for _, p := range []api.Poly{trial.Reals(1, 1, 1, 1, 1), trial.Reals(0, 0, 0, 0, 0), trial.Reals(3, 0, 1, 0, 1), {trial.Whole(3, -4), trial.Whole(0, 1), trial.Whole(2, 2), trial.Whole(1, 1), trial.Whole(1, 1)}} {
		if fault := trial.Touched(call, trial.Numbers(p)); fault != "" {
			t.Errorf("Memory: Polys of %v: %s", p, fault)
		}
		if fault := trial.Beside(call, trial.Numbers(p)); fault != "" {
			t.Errorf("P2: Polys of %v: %s", p, fault)
		}
	}
}
