package pair_test

import (
	"slices"
	"testing"

	"quaver/api"
	"quaver/pair"
	"quaver/trial"
)

// group is a group, its zeros first.
func group(zeros, poles []complex128) api.Group {
	return api.Group{Zeros: zeros, Poles: poles}
}

func cut(t *testing.T, zeros, poles []complex128, want ...api.Group) {
	t.Helper()
	for _, gain := range list(0, 1, complex(-trial.Greatest, trial.Least), complex(minus, minus)) {
		got, e := pair.Groups(api.Zpk{Zeros: zeros, Poles: poles, Gain: gain})
		if e != api.OK || !sameGroups(got, want) {
			t.Errorf("P14.3: Groups of the zeros %v and the poles %v, the gain %v: %v, %d, want %v", zeros, poles, gain, got, e, want)
			return
		}
	}
}

func TestGroupsExamples(t *testing.T) {
	up, down := complex(0, 0.9), complex(0, -0.9)
	cut(t, list(-1, -1, 1), list(0.5, up, down, 0.25), group(list(-1, -1), list(down, up)), group(list(1), list(0.5, 0.25)))
	cut(t, nil, list(complex(0, 1), complex(1, 1)), group(nil, list(complex(1, 1))), group(nil, list(complex(0, 1))))
	cut(t, list(1, 2, 3), nil, group(list(3, 2), nil), group(list(1), nil))
	cut(t, nil, nil)
	cut(t, list(), list())
}

func TestPartnersOfPoles(t *testing.T) {
	i := complex(0, 1)
	// A real one takes the farthest of the real ones, not the next of all.
	cut(t, nil, list(1, -4, 3*i, 2), group(nil, list(-4, 2)), group(nil, list(3*i)), group(nil, list(1)))
	cut(t, nil, list(1, 2, -2, 2), group(nil, list(-2, 2)), group(nil, list(2, 1)))
	cut(t, nil, list(4, 3*i, 2*i), group(nil, list(4)), group(nil, list(3*i)), group(nil, list(2*i)))
	cut(t, nil, list(4), group(nil, list(4)))
	cut(t, nil, list(3, 3, 3), group(nil, list(3, 3)), group(nil, list(3)))
	// Another one takes its conjugate, wherever it stands, and nothing else.
	cut(t, nil, list(complex(1, -1), 5, complex(1, 1), -6), group(nil, list(-6, 5)), group(nil, list(complex(1, -1), complex(1, 1))))
	cut(t, nil, list(complex(1, 1), 0.5, complex(-1, 1), complex(1, -1)), group(nil, list(complex(-1, 1))), group(nil, list(complex(1, -1), complex(1, 1))), group(nil, list(0.5)))
	cut(t, nil, list(complex(2, 1), complex(2, 1), complex(2, -1)), group(nil, list(complex(2, -1), complex(2, 1))), group(nil, list(complex(2, 1))))
	cut(t, nil, list(complex(2, -1), complex(2, 1), complex(2, -1)), group(nil, list(complex(2, -1), complex(2, 1))), group(nil, list(complex(2, -1))))
	// It is a conjugate by ==; the first of several goes.
	cut(t, nil, list(i, complex(minus, 1), complex(minus, -1)), group(nil, list(complex(minus, -1), i)), group(nil, list(complex(minus, 1))))
	cut(t, nil, list(complex(minus, 1), i, -i), group(nil, list(complex(minus, -1), complex(minus, 1))), group(nil, list(i)))
	cut(t, nil, list(complex(0, -1), i, complex(minus, 1)), group(nil, list(complex(minus, 1), complex(0, -1))), group(nil, list(i)))
	// Noughts in imaginary parts are of real ones, with the signs that they have.
	cut(t, nil, list(complex(2, minus), 2, complex(2, minus)), group(nil, list(complex(2, minus), complex(2, minus))), group(nil, list(2)))
	cut(t, nil, list(0, complex(minus, minus), complex(0, minus)), group(nil, list(complex(minus, minus), complex(0, minus))), group(nil, list(0)))
}

func TestZerosOfPoles(t *testing.T) {
	i := complex(0, 1)
	// The zero closest to the first pole of the group, not to its partner, and not the farthest.
	cut(t, list(5, 0.8, -0.8), list(0.9, -0.7), group(list(0.8, -0.8), list(0.9, -0.7)), group(list(5), nil))
	cut(t, list(complex(0.2, 1), complex(0.2, -1)), list(i, -i), group(list(complex(0.2, -1), complex(0.2, 1)), list(-i, i)))
	// A real one takes the real one that is closest to the pole, whatever else is closer.
	cut(t, list(3*i, 4, -4, -1, 2*i), list(0.5), group(list(-1, 4), list(0.5)), group(list(-4), nil), group(list(3*i), nil), group(list(2*i), nil))
	cut(t, list(1, 8, 7), list(0.5, 0.25), group(list(1, 7), list(0.5, 0.25)), group(list(8), nil))
	cut(t, list(2, 1, 3), list(2.5), group(list(2, 3), list(2.5)), group(list(1), nil))
	cut(t, list(1, complex(1, 1)), list(0.9), group(list(1), list(0.9)), group(list(complex(1, 1)), nil))
	// Another one takes its conjugate, or none.
	cut(t, list(complex(1, 1), 1.5, complex(1, -1), 2), list(complex(1, 2)), group(list(complex(1, 1), complex(1, -1)), list(complex(1, 2))), group(list(2, 1.5), nil))
	cut(t, list(complex(1, 1), 1.5), list(complex(1, 2), 0), group(list(complex(1, 1)), list(complex(1, 2))), group(list(1.5), list(0)))
	cut(t, list(complex(1, 1), complex(1, 1)), list(complex(1, 2)), group(list(complex(1, 1)), list(complex(1, 2))), group(list(complex(1, 1)), nil))
	cut(t, list(complex(minus, -1), -i, i, complex(minus, 1)), list(2*i), group(list(complex(minus, 1), complex(minus, -1)), list(2*i)), group(list(-i, i), nil))
	// Those that lie equally close: the least.
	cut(t, list(1, -1, complex(minus, 1), i), list(0), group(list(-1, 1), list(0)), group(list(complex(minus, 1)), nil), group(list(i), nil))
	cut(t, list(0, complex(0, minus), complex(minus, 0)), list(5), group(list(complex(minus, 0), complex(0, minus)), list(5)), group(list(0), nil))
	// None is left for the later poles.
	cut(t, list(1, 2), list(4, 3, 2, 1), group(list(2, 1), list(4, 3)), group(nil, list(2, 1)))
}

func TestZerosThatAreLeft(t *testing.T) {
	i := complex(0, 1)
	cut(t, list(0.5, 7, i, -8, -i, 6), list(0), group(list(0.5, 6), list(0)), group(list(-8, 7), nil), group(list(-i, i), nil))
	cut(t, list(i, 2*i, -i, 3), nil, group(list(3), nil), group(list(2*i), nil), group(list(-i, i), nil))
	cut(t, list(1, 2, 3*i, 0.5), nil, group(list(3*i), nil), group(list(2, 1), nil), group(list(0.5), nil))
	cut(t, list(complex(0, -1), i, complex(minus, 1)), nil, group(list(complex(minus, 1), complex(0, -1)), nil), group(list(i), nil))
	cut(t, trial.Noughts(), nil, group(list(complex(minus, minus), complex(minus, 0)), nil), group(list(complex(0, minus), 0), nil))
}

// rest are the places of a list that are left.
type rest struct {
	numbers []complex128
	places  []int
}

func (r *rest) take(place int) complex128 {
	r.places = slices.DeleteFunc(r.places, func(i int) bool { return i == place })
	return r.numbers[place]
}

// two takes out a number and its partner by the words of P14.3.
func (r *rest) two(z complex128, far bool) []complex128 {
	if len(r.places) == 0 {
		return nil
	}
	all := list(r.take(chosen(r.numbers, r.places, z, far)))
	p := all[0]
	var reals []int
	for _, i := range r.places {
		a := r.numbers[i]
		if imag(p) != 0 && real(a) == real(p) && imag(a) == -imag(p) {
			return append(all, r.take(i))
		}
		if imag(a) == 0 {
			reals = append(reals, i)
		}
	}
	if imag(p) == 0 && len(reals) > 0 {
		all = append(all, r.take(chosen(r.numbers, reals, z, far)))
	}
	return all
}

// grouped are the groups by the words of P14.3.
func grouped(f api.Zpk) []api.Group {
	zeros, poles := rest{f.Zeros, places(f.Zeros)}, rest{f.Poles, places(f.Poles)}
	var all []api.Group
	for len(poles.places) > 0 {
		two := poles.two(0, true)
		all = append(all, group(zeros.two(two[0], false), two))
	}
	for len(zeros.places) > 0 {
		all = append(all, group(zeros.two(0, true), nil))
	}
	return all
}

// mixed are at most so many numbers of several kinds, often with their conjugates.
func mixed(mix *trial.Mixer, most int) []complex128 {
	var all []complex128
	for n := mix.Below(most + 1); len(all) < n; {
		a := mix.FiniteNumbers(1)[0]
		switch mix.Below(4) {
		case 0:
			a = mix.Few(1)[0]
		case 1:
			a = mix.Numbers(1, mix.Middle)[0]
		case 2:
			a = complex(mix.Middle(), 0)
		}
		all = append(all, a)
		if len(all) < n && mix.Below(3) == 0 {
			all = slices.Insert(all, mix.Below(len(all)+1), complex(real(a), trial.Turned(imag(a))))
		}
	}
	return all
}

func TestGroups(t *testing.T) {
	mix := trial.Mixer(146)
	long := 0
	for range 400 {
		f := api.Zpk{Zeros: mixed(&mix, api.MaxRoots), Poles: mixed(&mix, api.MaxRoots), Gain: mix.FiniteNumbers(1)[0]}
		want, fault := grouped(f), api.OK
		if len(want) > api.MaxSections {
			want, fault = nil, api.ErrLong
			long++
		}
		got, e := pair.Groups(f)
		if e != fault || !sameGroups(got, want) {
			t.Fatalf("P14.3: Groups(%x) = %x, %d, want %x, %d", f, got, e, want, fault)
		}
		if e == api.OK {
			once(t, f, got)
		}
	}
	if long < 10 || long > 300 {
		t.Errorf("%d of 400 have too many groups", long)
	}
}

// once: does each number stand in one group, as often as it came, with its bits?
func once(t *testing.T, f api.Zpk, groups []api.Group) {
	t.Helper()
	var zeros, poles []complex128
	for _, g := range groups {
		zeros, poles = append(zeros, g.Zeros...), append(poles, g.Poles...)
		if len(g.Zeros) > 2 || len(g.Poles) > 2 || len(g.Zeros)+len(g.Poles) == 0 {
			t.Errorf("P14.3: a group of %d zeros and %d poles", len(g.Zeros), len(g.Poles))
		}
	}
	if !trial.AlikeNumbers(slices.SortedFunc(slices.Values(zeros), order), slices.SortedFunc(slices.Values(f.Zeros), order)) || !trial.AlikeNumbers(slices.SortedFunc(slices.Values(poles), order), slices.SortedFunc(slices.Values(f.Poles), order)) {
		t.Errorf("P14.4: Groups(%v) = %v: not each number once", f, groups)
	}
}

// conjugated are at most so many numbers of which each comes with its conjugate by ==.
func conjugated(mix *trial.Mixer, most int) []complex128 {
	var all []complex128
	for _, a := range mixed(mix, most/2) {
		all = slices.Insert(all, mix.Below(len(all)+1), a)
		if imag(a) != 0 || mix.Below(2) == 0 {
			b := complex(real(a), trial.Turned(imag(a)))
			if real(a) == 0 {
				b = complex(trial.Turned(real(a)), imag(b))
			}
			all = slices.Insert(all, mix.Below(len(all)+1), b)
		}
	}
	return all
}

func TestConjugatesStayTogether(t *testing.T) {
	mix := trial.Mixer(147)
	for range 400 {
		f := api.Zpk{Zeros: conjugated(&mix, api.MaxRoots), Poles: conjugated(&mix, api.MaxRoots), Gain: 1}
		for _, numbers := range [][]complex128{f.Zeros, f.Poles} {
			if _, _, e := pair.Conjugates(numbers); e != api.OK {
				t.Fatalf("P14.2: Conjugates(%x): %d", numbers, e)
			}
		}
		groups, e := pair.Groups(f)
		if want := grouped(f); e != api.OK || !sameGroups(groups, want) {
			t.Fatalf("P14.3: Groups(%x) = %x, %d, want %x", f, groups, e, want)
		}
		once(t, f, groups)
		for _, g := range groups {
			for _, numbers := range [][]complex128{g.Zeros, g.Poles} {
				if _, _, e := pair.Conjugates(numbers); e != api.OK {
					t.Fatalf("P14.4: Groups(%x) has the group %x", f, g)
				}
			}
		}
	}
}
