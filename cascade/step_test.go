package cascade_test

import (
	"slices"
	"testing"

	"quaver/api"
	"quaver/cascade"
	"quaver/run"
	"quaver/trial"
)

func TestExamples(t *testing.T) {
	two := made(t, api.Filter{Gain: 2})
	if y := two.Step(3); y != 6 || len(two.States()) != 0 || two.Set(nil) != api.OK || two.Set([]api.State{}) != api.OK || two.Set(make([]api.State, 1)) != api.ErrArg {
		t.Errorf("example 1: Step(3) = %v", y)
	}
	c := made(t, half())
	are(t, c.Run(list(1, 0, 0, 0)), list(1, 0.5, 0.25, 0.125), "example 2: Run")
	stands(t, c, []api.State{{S1: 0.0625}}, "example 2")
	answers, e := cascade.Impulse(half(), 4)
	are(t, answers, list(1, 0.5, 0.25, 0.125), "example 2: Impulse")
	if e != api.OK {
		t.Errorf("example 2: Impulse: %d", e)
	}
	c.Step(complex(nan, 0))
	for range 5 {
		if y := c.Step(0); real(y) == real(y) {
			t.Errorf("example 4: behind a NaN: %v", y)
		}
	}
	c.Rest()
	stands(t, c, make([]api.State, 1), "example 4: behind Rest")
	if y := c.Step(1); y != 1 {
		t.Errorf("example 4: behind Rest: %v", y)
	}
}

func TestNewIsAtRest(t *testing.T) {
	mix := trial.Mixer(171)
	for n := range api.MaxSections + 1 {
		for range 3 {
			stands(t, made(t, filter(&mix, n)), make([]api.State, n), "P17.1: New of %d sections", n)
		}
	}
	stands(t, made(t, api.Filter{Sections: []api.Section{}}), nil, "P17.1: New of no sections")
}

func TestStep(t *testing.T) {
	low := complex(minus, minus)
	for _, c := range []struct {
		f    api.Filter
		st   []api.State
		x, y complex128
		next []api.State
	}{
		// Without sections it is Mul(gain, x), to the signs of noughts.
		{api.Filter{Gain: 2}, nil, 3, 6, nil}, {api.Filter{Gain: complex(0, 1)}, nil, complex(0, 1), -1, nil}, {api.Filter{Gain: 1}, nil, low, complex(0, minus), nil}, {api.Filter{}, nil, -1, complex(minus, 0), nil}, {api.Filter{Gain: 1}, nil, complex(infinity, 0), complex(infinity, nan), nil}, {api.Filter{Gain: trial.Greatest}, nil, 2, complex(infinity, 0), nil}, {api.Filter{Gain: 0.5}, nil, 3 * trial.Least, 2 * trial.Least, nil}, {api.Filter{Gain: complex(1+0x1p-27, 1+0x1p-26)}, nil, complex(1+0x1p-27, 1), complex(0, 2+0x1p-25), nil},
		// The gain stands in front of the first section, and is not multiplied behind the last one.
		{api.Filter{Gain: 0, Sections: []api.Section{{B0: 1}}}, []api.State{{S1: 5, S2: 7}}, 1, 5, []api.State{{S1: 7}}},
		{api.Filter{Gain: 2, Sections: []api.Section{{B0: 3, B1: 1, B2: 1}}}, []api.State{{S1: 1, S2: 10}}, 5, 31, []api.State{{S1: 20, S2: 10}}},
		{api.Filter{Gain: 1, Sections: []api.Section{{B0: 0.5}}}, []api.State{{}}, 3 * trial.Least, 2 * trial.Least, []api.State{{}}},
		// Section by section, from the first.
		{api.Filter{Gain: 1, Sections: []api.Section{{B0: 2, B1: 1}, {B0: 3, B2: 1}}}, []api.State{{S1: 1}, {S1: 10}}, 1, 19, []api.State{{S1: 1}, {S2: 3}}},
		{api.Filter{Gain: 1, Sections: []api.Section{{B0: trial.Greatest}, {B0: 0.5}}}, []api.State{{}, {}}, 2, complex(infinity, nan), []api.State{{S1: complex(nan, nan), S2: complex(nan, nan)}, {S1: complex(nan, nan), S2: complex(nan, nan)}}},
		{api.Filter{Gain: 1, Sections: []api.Section{{B0: 0.5}, {B0: trial.Greatest}}}, []api.State{{}, {}}, 2, trial.Greatest, []api.State{{}, {}}},
	} {
		w := made(t, c.f)
		if e := w.Set(c.st); e != api.OK {
			t.Fatalf("P17.4: Set(%v): %d", c.st, e)
		}
		trial.Is(t, w.Step(c.x), c.y, "P17.2: Step(%v) of %v", c.x, c.f)
		stands(t, w, c.next, "P17.2: behind Step(%v) of %v", c.x, c.f)
	}
}

func TestStepByAnotherRoad(t *testing.T) {
	mix := trial.Mixer(172)
	for round := range 300 {
		f := filter(&mix, round%5)
		c, m := made(t, f), newModel(f)
		if round%3 == 0 {
			m.states = states(&mix, len(f.Sections))
			if e := c.Set(m.states); e != api.OK {
				t.Fatalf("P17.4: Set: %d", e)
			}
		}
		for _, x := range mix.Numbers(6, mix.Kind()) {
			trial.Is(t, c.Step(x), m.step(x), "P17.2: Step(%x) of %x", x, f)
			stands(t, c, m.states, "P17.2: behind Step(%x) of %x", x, f)
		}
	}
	// As many sections as there may be.
	f := filter(&mix, api.MaxSections)
	samples := mix.Numbers(20, mix.Middle)
	are(t, made(t, f).Run(samples), newModel(f).run(samples), "P17.3: Run of MaxSections sections")
}

func TestOneSectionIsRun(t *testing.T) {
	mix := trial.Mixer(173)
	for range 100 {
		s, samples := trial.Section(mix.FiniteNumbers(5)), mix.Numbers(10, mix.Kind())
		c := made(t, api.Filter{Gain: 1, Sections: []api.Section{s}})
		var turned []complex128
		for _, x := range samples {
			turned = append(turned, trial.Product(1, x))
		}
		want, end := run.All(s, api.State{}, turned)
		are(t, c.Run(samples), want, "P17.2: one section, %x", s)
		stands(t, c, []api.State{end}, "P17.2: one section, %x", s)
	}
}

func TestRun(t *testing.T) {
	mix := trial.Mixer(174)
	for round := range 200 {
		f := filter(&mix, round%4)
		c, m, one := made(t, f), newModel(f), made(t, f)
		samples := mix.Numbers([]int{0, 1, 2, 9}[round%4], mix.Kind())
		answers := c.Run(samples)
		are(t, answers, m.run(samples), "P17.3: Run(%x) of %x", samples, f)
		stands(t, c, m.states, "P17.3: behind Run(%x) of %x", samples, f)
		for i, x := range samples {
			trial.Is(t, one.Step(x), answers[i], "P17.3: Step(%x) of %x", x, f)
		}
	}
	c := made(t, half())
	c.Step(1)
	for _, none := range [][]complex128{nil, {}} {
		if got := c.Run(none); len(got) != 0 {
			t.Errorf("P17.3: Run of no samples: %v", got)
		}
	}
	stands(t, c, []api.State{{S1: 0.5}}, "P17.3: behind Run of no samples")
}

func TestNothingIsFlushed(t *testing.T) {
	f := api.Filter{Gain: 1, Sections: []api.Section{{B0: 1, A1: -1}, {B0: 1}}}
	c := made(t, f)
	least := complex(trial.Least, -3*trial.Least)
	are(t, c.Run(list(least, 0, 0, least)), list(least, least, least, least+least), "P6: Run of subnormal numbers")
	for _, bad := range trial.Endless() {
		c, m := made(t, f), newModel(f)
		samples := list(1, bad, 0, 1)
		are(t, c.Run(samples), m.run(samples), "P6: Run(%v)", samples)
		stands(t, c, m.states, "P6: behind Run(%v)", samples)
	}
}

// between is the filter that goes on behind a piece: the same one, a copy of it, or a new one that is set to its states; the others are disturbed.
func between(t *testing.T, mix *trial.Mixer, f api.Filter, c *cascade.Cascade) *cascade.Cascade {
	t.Helper()
	switch mix.Below(4) {
	case 0:
		other := c.Copy()
		c.Run(list(complex(nan, 1), 2))
		c.Rest()
		return other
	case 1:
		other := c.Copy()
		other.Run(list(complex(infinity, 1), 2))
		return c
	case 2:
		other := made(t, f)
		other.Run(list(1, 2, 3))
		if e := other.Set(c.States()); e != api.OK {
			t.Fatalf("P17.4: Set: %d", e)
		}
		c.Step(complex(nan, nan))
		return other
	}
	told := c.States()
	c.Step(7)
	c.Rest()
	if e := c.Set(told); e != api.OK {
		t.Fatalf("P17.4: Set: %d", e)
	}
	return c
}

func TestCutAnyhow(t *testing.T) {
	mix := trial.Mixer(175)
	for round := range 150 {
		f := filter(&mix, round%4)
		samples := mix.Numbers(mix.Below(25), mix.Kind())
		whole := made(t, f)
		want := whole.Run(samples)
		end := whole.States()
		for cut := range len(samples) + 1 {
			c := made(t, f)
			first, second := c.Run(samples[:cut]), c.Run(samples[cut:])
			are(t, slices.Concat(first, second), want, "P17.6: cut at %d", cut)
			stands(t, c, end, "P17.6: cut at %d", cut)
		}
		c := made(t, f)
		var got []complex128
		for len(got) < len(samples) {
			c = between(t, &mix, f, c)
			some := samples[len(got):][:mix.Below(len(samples)-len(got)+1)]
			got = append(got, c.Run(some)...)
		}
		are(t, got, want, "P17.6: cut anyhow")
		stands(t, c, end, "P17.6: cut anyhow")
	}
}
