package cascade_test

import (
	"math"
	"slices"
	"sync"
	"testing"

	"quaver/api"
	"quaver/cascade"
	"quaver/trial"
)

// refused: do New and Impulse of n answers answer this error, and nothing else?
func refused(t *testing.T, f api.Filter, want api.Errno) {
	t.Helper()
	if c, e := cascade.New(f); e != want || (c == nil) != (want != api.OK) {
		t.Errorf("Errors: New of %d sections, the gain %v: %v, %d, want %d", len(f.Sections), f.Gain, c, e, want)
	}
	for _, n := range []int{0, 1, 2, 65536} {
		impulse(t, f, n, want)
	}
	for _, n := range []int{-1, -2, math.MinInt, 65537, math.MaxInt} {
		impulse(t, f, n, api.ErrArg)
	}
}

func impulse(t *testing.T, f api.Filter, n int, want api.Errno) {
	t.Helper()
	answers, e := cascade.Impulse(f, n)
	if e != want || want != api.OK && len(answers) != 0 || want == api.OK && len(answers) != n {
		t.Errorf("Errors: Impulse(%d) of %d sections, the gain %v: %d answers, %d, want %d", n, len(f.Sections), f.Gain, len(answers), e, want)
	}
}

func TestErrors(t *testing.T) {
	for n, want := range map[int]api.Errno{0: api.OK, 1: api.OK, 15: api.OK, 16: api.OK, 17: api.ErrLong, 18: api.ErrLong, 1000: api.ErrLong} {
		refused(t, api.Filter{Gain: 1, Sections: make([]api.Section, n)}, want)
	}
	for _, bad := range trial.Endless() {
		refused(t, api.Filter{Gain: bad}, api.ErrNaN)
		refused(t, api.Filter{Gain: bad, Sections: make([]api.Section, 16)}, api.ErrNaN)
		refused(t, api.Filter{Gain: bad, Sections: make([]api.Section, 17)}, api.ErrLong)
		for i := range 5 {
			c := make([]complex128, 5)
			c[i] = bad
			for _, n := range []int{1, 2, 16, 17} {
				want := api.ErrNaN
				if n > api.MaxSections {
					want = api.ErrLong
				}
				for _, place := range []int{0, n / 2, n - 1} {
					f := api.Filter{Gain: 1, Sections: make([]api.Section, n)}
					f.Sections[place] = trial.Section(c)
					if c, e := cascade.New(f); e != want || c != nil {
						t.Errorf("Errors: New with %v as coefficient %d of section %d of %d: %v, %d", bad, i, place, n, c, e)
					}
					impulse(t, f, 3, want)
					impulse(t, f, -1, api.ErrArg)
				}
			}
		}
	}
	// The ends of the format are finite.
	for _, z := range trial.Signs(trial.Greatest, trial.Least) {
		refused(t, api.Filter{Gain: z, Sections: []api.Section{{B0: z, B1: z, B2: z, A1: z, A2: z}}}, api.OK)
	}
}

func TestImpulse(t *testing.T) {
	mix := trial.Mixer(180)
	for round := range 60 {
		f := filter(&mix, round%4)
		m := newModel(f)
		for _, n := range []int{0, 1, 2, 12} {
			m.states = make([]api.State, len(f.Sections))
			samples := make([]complex128, n)
			if n > 0 {
				samples[0] = 1
			}
			got, e := cascade.Impulse(f, n)
			if e != api.OK {
				t.Fatalf("P17.5: Impulse(%d): %d", n, e)
			}
			are(t, got, m.run(samples), "P17.5: Impulse(%x, %d)", f, n)
		}
	}
	// As many as may be: the answers halve till they are gone.
	got, e := cascade.Impulse(half(), 65536)
	if e != api.OK || len(got) != 65536 {
		t.Fatalf("P17.5: Impulse of 65536: %d, %d", len(got), e)
	}
	for i, y := range got {
		trial.Is(t, y, complex(math.Ldexp(1, -i), 0), "P17.5: the answer %d", i)
	}
	stay, _ := cascade.Impulse(api.Filter{Gain: 1i, Sections: []api.Section{{B0: 1, A1: -1}}}, 65536)
	if !slices.Equal(stay, slices.Repeat(list(1i), 65536)) {
		t.Error("P17.5: what stays is lost")
	}
}

// calls answers what the calls do, in lists: args are the gain, the sections' coefficients and samples.
func calls(args [][]complex128) [][]complex128 {
	f := api.Filter{Gain: args[0][0]}
	for c := range slices.Chunk(args[1], 5) {
		f.Sections = append(f.Sections, trial.Section(c))
	}
	c, e := cascade.New(f)
	clear(f.Sections)
	var told []complex128
	for _, st := range c.States() {
		told = append(told, st.S1, st.S2)
	}
	return [][]complex128{list(complex(float64(e), 0)), told, c.Run(args[2]), c.Run(args[2]), c.Copy().Run(args[2])}
}

func TestMemory(t *testing.T) {
	mix := trial.Mixer(181)
	for n := range 4 {
		for _, samples := range [][]complex128{nil, {}, list(1), mix.Numbers(7, mix.Middle), mix.Few(4), mix.Numbers(5, mix.Float)} {
			if fault := trial.TouchedLists(calls, mix.Numbers(1, mix.Middle), mix.Numbers(5*n, mix.Middle), samples); fault != "" {
				t.Errorf("Memory: %d sections, %v: %s", n, samples, fault)
			}
		}
	}
	if fault := trial.BesideLists(calls, list(2), mix.Numbers(15, mix.Middle), mix.Numbers(50, mix.Middle)); fault != "" {
		t.Errorf("P2: %s", fault)
	}
	first, _ := cascade.Impulse(half(), 5)
	second, _ := cascade.Impulse(half(), 5)
	trial.ScrawlList(first)
	third, _ := cascade.Impulse(half(), 5)
	are(t, second, third, "Memory: Impulse")
}

func TestMemoryOfSections(t *testing.T) {
	mix := trial.Mixer(182)
	f := filter(&mix, 3)
	spare := api.Section{B0: 77, A2: -77}
	roomy := append(slices.Clone(f.Sections), spare, spare)
	given := api.Filter{Gain: f.Gain, Sections: roomy[:3]}
	c, m := made(t, given), newModel(f)
	if _, e := cascade.Impulse(given, 4); e != api.OK || !slices.EqualFunc(roomy, append(slices.Clone(f.Sections), spare, spare), trial.AlikeSection) {
		t.Error("Memory: New or Impulse changed the sections that were handed in")
	}
	clear(roomy) // what was handed in may be written over
	samples := mix.Numbers(5, mix.Middle)
	are(t, c.Run(samples), m.run(samples), "Memory: Run behind sections that are written over")
}

func TestMemoryOfStates(t *testing.T) {
	mix := trial.Mixer(183)
	f := filter(&mix, 3)
	c, m := made(t, f), newModel(f)
	mark := api.State{S1: 77, S2: -77}
	want := states(&mix, 3)
	m.states = slices.Clone(want)
	roomy := append(slices.Clone(want), mark, mark)
	if e := c.Set(roomy[:3]); e != api.OK || !trial.AlikeStates(roomy, append(slices.Clone(want), mark, mark)) {
		t.Error("Memory: Set changed what it was given")
	}
	for i := range roomy {
		roomy[i] = mark
	}
	stands(t, c, want, "Memory: Set keeps what it was given")
	// What States told may be written over, spare room too; and stays what it was when the filter goes on.
	told, other, dup := c.States(), c.States(), c.Copy()
	all := told[:cap(told)]
	for i := range all {
		all[i] = mark
	}
	if !trial.AlikeStates(other, want) {
		t.Error("Memory: two answers of States share memory")
	}
	stands(t, c, want, "Memory: States hands out what is kept")
	samples := mix.Numbers(3, mix.Middle)
	are(t, c.Run(samples), m.run(samples), "Memory: Run")
	if !trial.AlikeStates(other, want) {
		t.Error("Memory: an answer of States goes on with the filter")
	}
	stands(t, dup, want, "Memory: a copy goes on with the filter")
	// Refused or not, Set leaves its list.
	short := append(slices.Clone(want[:2]), mark)
	if e := c.Set(short[:2]); e != api.ErrArg || !trial.AlikeStates(short, append(slices.Clone(want[:2]), mark)) {
		t.Error("Memory: a Set that is refused changed what it was given")
	}
}

func TestFiltersBesideEachOther(t *testing.T) {
	mix := trial.Mixer(184)
	f, samples := filter(&mix, 4), mix.Numbers(200, mix.Middle)
	c := made(t, f)
	c.Step(1)
	want := c.Copy().Run(samples)
	got := make([][]complex128, 16)
	var group sync.WaitGroup
	for i := range got {
		d := c.Copy()
		group.Go(func() { got[i] = d.Run(samples) })
	}
	group.Wait()
	for _, answers := range got {
		are(t, answers, want, "P2: copies that run beside each other")
	}
}
