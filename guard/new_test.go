package guard_test

import (
	"slices"
	"sync"
	"testing"

	"quaver/api"
	"quaver/cascade"
	"quaver/guard"
	"quaver/trial"
)

// refused: does New answer this error, and nothing beside it, whatever the guard?
func refused(t *testing.T, f api.Filter, want api.Errno) {
	t.Helper()
	for _, g := range trial.Guards() {
		if d, e := guard.New(f, g); e != want || (d == nil) != (want != api.OK) {
			t.Errorf("P19.2: New of %d sections, the gain %v, %v: %v, %d, want %d", len(f.Sections), f.Gain, g, d, e, want)
		}
	}
}

func TestNew(t *testing.T) {
	for _, n := range []int{0, 1, 2, 15, 16} {
		f := api.Filter{Gain: 1, Sections: make([]api.Section, n)}
		refused(t, f, api.OK)
		for _, g := range trial.Guards() {
			stands(t, made(t, f, g), make([]api.State, n), 0, "P19.2: New of %d sections", n)
		}
	}
	for _, n := range []int{17, 18, 1000} {
		refused(t, api.Filter{Gain: 1, Sections: make([]api.Section, n)}, api.ErrLong)
	}
	// The ends of the format are finite, and stand as they are, whatever the guard would make of them.
	for _, z := range trial.Signs(greatest, least) {
		f := api.Filter{Gain: z, Sections: []api.Section{{B0: z, B1: z, B2: z, A1: z, A2: z}}}
		refused(t, f, api.OK)
		like(t, made(t, f, all), trial.NewGuarded(f, all), list(0x1p-1000, 0x1p1000, complex(0x1p60, -0x1p60)))
	}
}

func TestErrors(t *testing.T) {
	for _, bad := range trial.Endless() {
		refused(t, api.Filter{Gain: bad}, api.ErrNaN)
		refused(t, api.Filter{Gain: bad, Sections: make([]api.Section, 16)}, api.ErrNaN)
		refused(t, api.Filter{Gain: bad, Sections: make([]api.Section, 17)}, api.ErrLong)
		for i := range 5 {
			c := make([]complex128, 5)
			c[i] = bad
			for _, n := range []int{1, 2, 16, 17} {
				want := api.ErrNaN
				if n > api.MaxSections {
					want = api.ErrLong
				}
				for _, place := range []int{0, n / 2, n - 1} {
					f := api.Filter{Gain: 1, Sections: make([]api.Section, n)}
					f.Sections[place] = trial.Section(c)
					refused(t, f, want)
				}
			}
		}
	}
}

func TestNilGuarded(t *testing.T) {
	var d *guard.Guarded
	for _, xs := range [][]complex128{nil, {}, list(1), list(complex(nan, infinity), least)} {
		if got := d.Run(xs); len(got) != 0 {
			t.Errorf("P19.4: Run(%v) of a nil one = %v", xs, got)
		}
	}
	if d.Changed() != 0 || len(d.States()) != 0 {
		t.Errorf("P19.4: a nil one tells %d, %v", d.Changed(), d.States())
	}
}

func TestPromotedMethods(t *testing.T) {
	mix := trial.Mixer(206)
	for n := range 4 {
		// Nothing is promised of what they answer, but that they end.
		d := made(t, mix.Filter(n), all)
		d.Run(mix.Samples(3))
		for _, x := range append(trial.Endless(), 1) {
			d.Step(x)
		}
		for count := range 6 {
			d.Set(make([]api.State, count))
		}
		d.Set(nil)
		d.Copy().Run(list(1, 2))
		d.Rest()
		if got := d.Run(list(1, complex(nan, 0))); len(got) != 2 || len(d.States()) != n {
			t.Errorf("P1: Run behind the promoted methods: %v", got)
		}
		var c *cascade.Cascade = &d.Cascade
		c.Run(list(1))
	}
}

func TestNoneOfNewPanics(t *testing.T) {
	// Of these nothing is promised but that they end.
	var empty, filled guard.Guarded
	work, _ := cascade.New(api.Filter{Gain: 1, Sections: make([]api.Section, 3)})
	filled.Cascade = *work
	shared := *made(t, half(), all)
	short, bare := *made(t, half(), all), *made(t, half(), all)
	short.Cascade, bare.Cascade = *work, cascade.Cascade{}
	for _, d := range []*guard.Guarded{&empty, &filled, &shared, &short, &bare} {
		for range 2 {
			d.Run(list(1, complex(nan, 0)))
			d.Changed()
			d.States()
			d.Step(1)
			d.Rest()
			d.Copy()
		}
	}
}

// calls answers what a guarded filter tells, in lists: args are the gain, the sections' coefficients and samples.
func calls(args [][]complex128) [][]complex128 {
	f := api.Filter{Gain: args[0][0]}
	for c := range slices.Chunk(args[1], 5) {
		f.Sections = append(f.Sections, trial.Section(c))
	}
	d, e := guard.New(f, all)
	clear(f.Sections)
	told := [][]complex128{list(complex(float64(e), 0))}
	for range 2 {
		told = append(told, d.Run(args[2]), list(complex(float64(d.Changed()), 0)))
		var states []complex128
		for _, st := range d.States() {
			states = append(states, st.S1, st.S2)
		}
		told = append(told, states)
	}
	return told
}

func TestMemory(t *testing.T) {
	mix := trial.Mixer(207)
	for n := range 4 {
		for _, xs := range [][]complex128{nil, {}, list(1), mix.Numbers(7, mix.Middle), mix.Few(4), mix.Numbers(5, mix.Float)} {
			if fault := trial.TouchedLists(calls, mix.Numbers(1, mix.Middle), mix.Numbers(5*n, mix.Middle), xs); fault != "" {
				t.Errorf("Memory: %d sections, %v: %s", n, xs, fault)
			}
		}
	}
	if fault := trial.BesideLists(calls, list(2), mix.Numbers(15, mix.Middle), mix.Samples(50)); fault != "" {
		t.Errorf("P2: %s", fault)
	}
}

func TestMemoryOfFilters(t *testing.T) {
	mix := trial.Mixer(208)
	f := mix.Filter(3)
	spare := api.Section{B0: 77, A2: -77}
	roomy := append(slices.Clone(f.Sections), spare, spare)
	d, m := made(t, api.Filter{Gain: f.Gain, Sections: roomy[:3]}, all), trial.NewGuarded(f, all)
	if !slices.EqualFunc(roomy, append(slices.Clone(f.Sections), spare, spare), trial.AlikeSection) {
		t.Error("Memory: New changed the sections that were handed in")
	}
	clear(roomy) // what was handed in may be written over
	like(t, d, m, mix.Numbers(5, mix.Middle), mix.Samples(4))
	like(t, made(t, api.Filter{Gain: f.Gain, Sections: []api.Section{}}, all), trial.NewGuarded(api.Filter{Gain: f.Gain}, all), mix.Samples(4))
}

func TestMemoryOfStates(t *testing.T) {
	mix := trial.Mixer(209)
	f := mix.Filter(3)
	d, m := made(t, f, all), trial.NewGuarded(f, all)
	for range 3 {
		like(t, d, m, mix.Samples(3))
		told, other, was := d.States(), d.States(), slices.Clone(m.States)
		spare := told[:cap(told)]
		for i := range spare {
			spare[i] = api.State{S1: 77, S2: -77}
		}
		if !trial.AlikeStates(other, was) {
			t.Error("Memory: two answers of States share memory")
		}
		stands(t, d, m.States, m.Changed, "Memory: States hands out what is kept")
		answers := d.Run(list(1, 2i))
		trial.ScrawlList(answers)
		m.Run(list(1, 2i))
		if !trial.AlikeStates(other, was) {
			t.Error("Memory: an answer of States goes on with the filter")
		}
	}
}

func TestFiltersBesideEachOther(t *testing.T) {
	mix := trial.Mixer(210)
	f, xs := mix.Filter(4), mix.Samples(200)
	first := made(t, f, all)
	want := first.Run(xs)
	got, changed := make([][]complex128, 16), make([]uint64, 16)
	var group sync.WaitGroup
	for i := range got {
		d := made(t, f, all)
		group.Go(func() { got[i], changed[i] = d.Run(xs), d.Changed() })
	}
	group.Wait()
	for i, answers := range got {
		are(t, answers, want, "P2: filters that run beside each other")
		if changed[i] != first.Changed() {
			t.Errorf("P2: %d changed beside others, %d alone", changed[i], first.Changed())
		}
	}
}
