package biquad_test

import (
	"slices"
	"testing"

	"quaver/api"
	"quaver/biquad"
	"quaver/pair"
	"quaver/trial"
	"quaver/zpk"
)

// sameFilter: bit by bit.
func sameFilter(f, g api.Filter) bool {
	return trial.AlikeNumber(f.Gain, g.Gain) && slices.EqualFunc(f.Sections, g.Sections, trial.AlikeSection)
}

func TestFilterExamples(t *testing.T) {
	for _, c := range []struct {
		f    api.Zpk
		want api.Filter
	}{
		{api.Zpk{}, api.Filter{}}, {api.Zpk{Gain: 3}, api.Filter{Gain: 3}},
		{api.Zpk{Zeros: list(-1, -1, 1), Poles: list(0.5, complex(0, 0.875), complex(0, -0.875), 0.25), Gain: 3}, api.Filter{Gain: 3, Sections: []api.Section{{B0: 1, B1: 2, B2: 1, A2: 0.765625}, {B0: 1, B1: -1, A1: -0.75, A2: 0.125}}}},
		// In the order of the groups: the farthest poles first; zeros without poles behind them.
		{api.Zpk{Zeros: list(4, 5, 6), Poles: list(complex(0, 1), 2)}, api.Filter{Sections: []api.Section{{B0: 1, B1: -9, B2: 20, A1: -2}, {B0: 1, B1: -6, A1: complex(0, -1)}}}},
		{api.Zpk{Zeros: list(1, 2, 3, complex(0, 8)), Poles: list(0.5), Gain: 1}, api.Filter{Gain: 1, Sections: []api.Section{{B0: 1, B1: -3, B2: 2, A1: -0.5}, {B0: 1, B1: complex(0, -8)}, {B0: 1, B1: -3}}}},
	} {
		got, e := biquad.Filter(c.f)
		if e != api.OK || !sameFilter(got, c.want) {
			t.Errorf("P15.5: Filter(%v) = %v, %d, want %v", c.f, got, e, c.want)
		}
	}
}

// The gain stays, to the last bit, and no section has a share in it.
func TestGainStays(t *testing.T) {
	for _, gain := range slices.Concat(trial.Noughts(), trial.Signs(trial.Greatest, trial.Least), trial.Signs(0, 0.1), trial.Signs(3, 0)) {
		got, e := biquad.Filter(api.Zpk{Zeros: list(1), Poles: list(0.5), Gain: gain})
		if want := (api.Filter{Gain: gain, Sections: []api.Section{{B0: 1, B1: -1, A1: -0.5}}}); e != api.OK || !sameFilter(got, want) {
			t.Errorf("P15.5: Filter of the gain %x: %x, %d", gain, got, e)
		}
	}
}

// some are at most so many numbers of several kinds, many with their conjugates.
func some(mix *trial.Mixer, most int) []complex128 {
	kinds := []func(n int) []complex128{mix.Few, func(n int) []complex128 { return mix.Numbers(n, mix.Middle) }, mix.Few, mix.FiniteNumbers}
	var all []complex128
	for n := mix.Below(most + 1); len(all) < n; {
		a := kinds[mix.Below(len(kinds)-mix.Below(2))](1)[0]
		all = append(all, a)
		if len(all) < n && mix.Below(3) == 0 {
			all = append(all, complex(real(a), -imag(a)))
		}
	}
	return all
}

func TestFilterByGroups(t *testing.T) {
	mix := trial.Mixer(156)
	often := map[api.Errno]int{}
	for range 2000 {
		most := []int{4, 8, api.MaxRoots}[mix.Below(3)]
		f := api.Zpk{Zeros: some(&mix, most), Poles: some(&mix, most), Gain: mix.FiniteNumbers(1)[0]}
		groups, fault := pair.Groups(f)
		want := api.Filter{Gain: f.Gain}
		for _, g := range groups {
			top, below := shares(g.Zeros), shares(g.Poles)
			s, e := nearest(trial.Fraction(1, 0, 1), top[0], top[1], below[0], below[1])
			if fault == api.OK {
				fault = e
			}
			want.Sections = append(want.Sections, s)
		}
		if fault != api.OK {
			want = api.Filter{}
		}
		got, e := biquad.Filter(f)
		if e != fault || !sameFilter(got, want) {
			t.Fatalf("P15.5, P3: Filter(%x) = %x, %d, want %x, %d", f, got, e, want, fault)
		}
		often[e]++
	}
	if often[api.OK] < 500 || often[api.ErrOver] < 50 || often[api.ErrLong] < 20 {
		t.Errorf("so often each error: %v", often)
	}
}

// quarters are so many numbers whose sums and products are floats.
func quarters(mix *trial.Mixer, n int) []complex128 {
	return mix.Numbers(n, func() float64 { return float64(mix.Below(9)-4) / 4 })
}

// Where nothing is rounded, the sections make up the filter, but for steps of delay.
func TestFilterIsTheFilter(t *testing.T) {
	mix := trial.Mixer(157)
	for range 200 {
		f := api.Zpk{Zeros: quarters(&mix, mix.Below(9)), Poles: quarters(&mix, mix.Below(9)), Gain: quarters(&mix, 1)[0]}
		got, e := biquad.Filter(f)
		num, den, fault := zpk.Polys(f)
		if e != api.OK || fault != api.OK {
			t.Fatalf("P15.5: Filter(%v): %d, %d", f, e, fault)
		}
		all, below := line(f.Gain), trial.Reals(1)
		for _, s := range got.Sections {
			p, q, _ := biquad.Polys(s)
			all, below = trial.Multiplied(all, p), trial.Multiplied(below, q)
		}
		late := func(n int) api.Poly {
			return line(append(make([]complex128, n), 1)...)
		}
		places := 2 * len(got.Sections)
		if !trial.AlikePoly(all, trial.Multiplied(num, late(places-len(f.Zeros)))) || !trial.AlikePoly(below, trial.Multiplied(den, late(places-len(f.Poles)))) {
			t.Fatalf("P15.5: Filter(%v) = %v: another filter", f, got)
		}
	}
}
