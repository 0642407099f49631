package guard_test

import (
	"slices"
	"testing"

	"quaver/api"
	"quaver/cascade"
	"quaver/guard"
	"quaver/trial"
)

func TestExamples(t *testing.T) {
	d := made(t, half(), api.Guard{Flush: true})
	are(t, d.Run(list(low)), list(low), "example 2: the first answer")
	stands(t, d, make([]api.State, 1), 1, "example 2")
	are(t, d.Run(list(0)), list(0), "example 2: the next answer")
	d = made(t, half(), none)
	are(t, d.Run(list(low, 0)), list(low, low/2), "example 2: without Flush")
	stands(t, d, []api.State{{S1: low / 4}}, 0, "example 2: without Flush")

	d = made(t, half(), api.Guard{Clip: true})
	are(t, d.Run(list(greatest)), list(greatest), "example 3: the first answer")
	stands(t, d, []api.State{{S1: greatest / 2}}, 0, "example 3")
	are(t, d.Run(list(greatest)), list(greatest), "example 3: the next answer")
	stands(t, d, []api.State{{S1: complex(greatest, nan), S2: complex(nan, nan)}}, 2, "example 3")

	for n, want := range map[int]api.Errno{16: api.OK, 17: api.ErrLong} {
		f := api.Filter{Gain: 1, Sections: make([]api.Section, n)}
		if d, e := guard.New(f, all); e != want || (d == nil) != (want != api.OK) {
			t.Errorf("example 4: New of %d sections: %v, %d", n, d, e)
		}
	}
}

func TestRun(t *testing.T) {
	mix := trial.Mixer(202)
	for round := range 400 {
		f := mix.Filter(round % 4)
		for _, g := range trial.Guards() {
			like(t, made(t, f, g), trial.NewGuarded(f, g), mix.Samples(3), nil, mix.Samples(1), list(), mix.Samples(2))
		}
	}
	for _, n := range []int{5, api.MaxSections - 1, api.MaxSections} {
		for range 6 {
			f := mix.Filter(n)
			for _, g := range trial.Guards() {
				like(t, made(t, f, g), trial.NewGuarded(f, g), mix.Samples(4), mix.Samples(2))
			}
		}
	}
}

func TestWithoutSections(t *testing.T) {
	// What no section answers is not cleaned.
	for _, g := range trial.Guards() {
		for _, gain := range []complex128{1, complex(minus, 0.5), complex(greatest, -greatest)} {
			d := made(t, api.Filter{Gain: gain}, g)
			for _, x := range trial.Edges() {
				for _, y := range trial.Edges() {
					a := complex(x, y)
					are(t, d.Run(list(a)), list(trial.Product(gain, a)), "P19.3: Run(%v) of the gain %v, %v", a, gain, g)
				}
			}
			stands(t, d, nil, 0, "P19.4: without sections")
		}
	}
}

func TestGainIsNotCleaned(t *testing.T) {
	one := func(gain complex128, s api.Section) api.Filter {
		return api.Filter{Gain: gain, Sections: []api.Section{s}}
	}
	for _, c := range []struct {
		f       api.Filter
		x, want complex128
		changed uint64
	}{
		// 2^-1023, doubled by the section, is normal again.
		{one(0.5, api.Section{B0: 2}), low, low, 0},
		{one(1, api.Section{B0: 0x1p60}), complex(3*least, 0), 3 * 0x1p-1014, 0},
		// An infinite product: both parts of 0.5 * (inf, NaN), of B1's and B2's.
		{one(2, api.Section{B0: 0.5}), greatest, greatest, 6},
		// A NaN, where a nought would be no change.
		{one(1, api.Section{B0: 1}), complex(nan, 0), 0, 6},
	} {
		d, m := made(t, c.f, all), trial.NewGuarded(c.f, all)
		m.Step(c.x)
		are(t, d.Run(list(c.x)), list(c.want), "P19.3: Run(%v) of %v", c.x, c.f)
		stands(t, d, m.States, c.changed, "P19.3: Run(%v) of %v", c.x, c.f)
	}
}

func TestStatesOfTheAnswerAheadOfCleaning(t *testing.T) {
	// The answer 2^-1074 is flushed; what A1 and A2 make of it is not.
	f := api.Filter{Gain: 1, Sections: []api.Section{{B0: 1, A1: -0x1p100, A2: 0x1p200}}}
	d := made(t, f, api.Guard{Flush: true})
	are(t, d.Run(list(least)), list(0), "P19.3: a flushed answer")
	stands(t, d, []api.State{{S1: 0x1p-974, S2: -0x1p-874}}, 1, "P19.3: behind a flushed answer")
	// An infinite answer is clipped; the states are made of the infinite one, with the NaNs that come of it.
	f = api.Filter{Gain: 1, Sections: []api.Section{{B0: 2, A1: 0x1p-1000}}}
	for _, c := range []struct {
		g       api.Guard
		answer  complex128
		state   api.State
		changed uint64
	}{
		{api.Guard{Clip: true}, greatest, api.State{S1: complex(-greatest, nan), S2: complex(nan, nan)}, 2},
		{api.Guard{Mute: true}, complex(infinity, 0), api.State{S1: complex(-infinity, 0)}, 3},
		{all, greatest, api.State{S1: -greatest}, 5},
		{none, complex(infinity, 0), api.State{S1: complex(-infinity, nan), S2: complex(nan, nan)}, 0},
	} {
		d := made(t, f, c.g)
		are(t, d.Run(list(greatest)), list(c.answer), "P19.3: an infinite answer, %v", c.g)
		stands(t, d, []api.State{c.state}, c.changed, "P19.3: behind an infinite answer, %v", c.g)
	}
}

func TestCleanedAnswerGoesOn(t *testing.T) {
	// What the first section answers is flushed before the second one takes it.
	f := api.Filter{Gain: 1, Sections: []api.Section{{B0: 0.5}, {B0: 0x1p100, B1: 0x1p100}}}
	d := made(t, f, api.Guard{Flush: true})
	are(t, d.Run(list(complex(low, -low))), list(complex(0, 0)), "P19.3: a flushed sample of the next section")
	stands(t, d, []api.State{{S1: 0}, {S1: 0}}, 2, "P19.3: a flushed sample of the next section")
	are(t, made(t, f, none).Run(list(low)), list(0x1p-923), "P19.3: one that is not flushed")
	// Clipped: half of the greatest, not half of an infinity.
	f = api.Filter{Gain: 1, Sections: []api.Section{{B0: 2}, {B0: 0.5}}}
	d = made(t, f, all)
	are(t, d.Run(list(greatest)), list(greatest/2), "P19.3: a clipped sample of the next section")
	// Muted: a nought, and the states of the second section stay clean without a change.
	d = made(t, f, api.Guard{Mute: true})
	are(t, d.Run(list(complex(nan, nan))), list(0), "P19.3: a muted sample of the next section")
	stands(t, d, make([]api.State, 2), 6, "P19.3: a muted sample of the next section")
}

func TestOrderOfSections(t *testing.T) {
	f := api.Filter{Gain: 1, Sections: []api.Section{{B0: 0.5}, {B0: 4}}}
	d := made(t, f, api.Guard{Flush: true})
	are(t, d.Run(list(low)), list(0), "P19.3: halved first")
	slices.Reverse(f.Sections)
	d = made(t, f, api.Guard{Flush: true})
	are(t, d.Run(list(low)), list(2*low), "P19.3: halved last")
}

func TestChanged(t *testing.T) {
	d := made(t, half(), all)
	var want uint64
	for range 5 {
		// Each NaN part is changed in the answer, in S1 and in S2.
		d.Run(list(complex(nan, nan)))
		want += 6
		stands(t, d, make([]api.State, 1), want, "P19.4: behind a NaN")
		d.Run(list(1, 2i))
		d.Run(nil)
		d.Run(make([]complex128, 30))
		d.Run(list(complex(nan, 0)))
		// A NaN in one part of the sample is one in both parts of each product.
		want += 6
		stands(t, d, make([]api.State, 1), want, "P19.4: behind a NaN in one part")
	}
	// Two filters count by themselves.
	other := made(t, half(), all)
	other.Run(list(complex(infinity, 0)))
	stands(t, d, make([]api.State, 1), want, "P19.4: beside another filter")
}

func TestCutAnyhow(t *testing.T) {
	mix := trial.Mixer(203)
	for round := range 12 {
		f, xs := mix.Filter(round%4), append(mix.Samples(6), mix.Samples(4)...)
		for _, g := range trial.Guards() {
			whole := made(t, f, g)
			want := whole.Run(xs)
			for i := range len(xs) + 1 {
				for j := i; j <= len(xs); j++ {
					d := made(t, f, g)
					got := slices.Concat(d.Run(xs[:i]), d.Run(xs[i:j]), d.Run(xs[j:]))
					are(t, got, want, "P19.5: Run of %x cut at %d and %d", xs, i, j)
					stands(t, d, whole.States(), whole.Changed(), "P19.5: Run of %x cut at %d and %d", xs, i, j)
				}
			}
			d := made(t, f, g)
			for i, x := range xs {
				are(t, d.Run(list(x)), want[i:i+1], "P19.5: sample by sample")
			}
			stands(t, d, whole.States(), whole.Changed(), "P19.5: sample by sample")
		}
	}
}

// besideCascade holds a guarded filter against the Cascade of the same filter, bit by bit.
func besideCascade(t *testing.T, f api.Filter, g api.Guard, pieces ...[]complex128) {
	t.Helper()
	d := made(t, f, g)
	c, e := cascade.New(f)
	if e != api.OK {
		t.Fatalf("P17.1: New: %d", e)
	}
	for _, xs := range pieces {
		are(t, d.Run(xs), c.Run(xs), "P19.5: Run(%x) of %x, %v", xs, f, g)
		stands(t, d, c.States(), 0, "P19.5: behind Run(%x) of %x, %v", xs, f, g)
	}
}

func TestAsTheCascade(t *testing.T) {
	mix := trial.Mixer(204)
	for round := range 300 {
		f := mix.Filter(round % (api.MaxSections + 1))
		besideCascade(t, f, none, mix.Samples(4), mix.Samples(3))
	}
	// Nothing to change on the way: halves and whole numbers, noughts of both signs among them.
	for round := range 100 {
		f := api.Filter{Gain: mix.Few(1)[0]}
		for range round % 5 {
			f.Sections = append(f.Sections, trial.Section(mix.Few(5)))
		}
		for _, g := range trial.Guards() {
			besideCascade(t, f, g, mix.Few(4), mix.Few(3))
		}
	}
	// Only what the flag says: parts that other flags would change go the cascade's way.
	down := api.Filter{Gain: 1, Sections: []api.Section{{B0: 0.5, A1: -0.5}}}
	besideCascade(t, down, api.Guard{Clip: true, Mute: true}, list(3*least, 0, complex(-least, minus), 0))
	up := api.Filter{Gain: 1, Sections: []api.Section{{B0: 2, A1: -0.5}, {B0: 1, B1: -1}}}
	besideCascade(t, up, api.Guard{Flush: true}, list(greatest, complex(0, -infinity), 1, complex(nan, 0), 0))
}

// clean: is each part a nought or a normal number?
func clean(list ...complex128) bool {
	for _, a := range list {
		if b, n := guard.Clean(all, a); n != 0 || !trial.AlikeNumber(a, b) || !trial.Finite(real(a)) || !trial.Finite(imag(a)) {
			return false
		}
	}
	return true
}

func TestNothingIsLeft(t *testing.T) {
	mix := trial.Mixer(205)
	var changed uint64
	for round := range 400 {
		d := made(t, mix.Filter(1+round%4), all)
		for range 4 {
			xs := mix.Samples(3)
			if got := d.Run(xs); !clean(got...) {
				t.Fatalf("P19.5: Run(%x) = %x, with all flags", xs, got)
			}
			for _, st := range d.States() {
				if !clean(st.S1, st.S2) {
					t.Fatalf("P19.5: behind Run(%x): the state %x, with all flags", xs, st)
				}
			}
		}
		changed += d.Changed()
	}
	if changed < 1000 {
		t.Errorf("P19.5: only %d parts were changed", changed)
	}
}
