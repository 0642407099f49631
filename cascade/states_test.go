package cascade_test

import (
	"slices"
	"testing"

	"quaver/api"
	"quaver/cascade"
	"quaver/trial"
)

func TestSet(t *testing.T) {
	mix := trial.Mixer(176)
	for round := range 200 {
		f := filter(&mix, round%(api.MaxSections+1))
		c, m := made(t, f), newModel(f)
		c.Run(mix.Numbers(2, mix.Middle))
		// Any values: not finite ones, subnormal ones, noughts of both signs.
		m.states = states(&mix, len(f.Sections))
		if e := c.Set(m.states); e != api.OK {
			t.Fatalf("P17.4: Set(%x): %d", m.states, e)
		}
		stands(t, c, m.states, "P17.4: behind Set")
		x := mix.Numbers(1, mix.Kind())[0]
		trial.Is(t, c.Step(x), m.step(x), "P17.4: Step(%x) behind Set", x)
		stands(t, c, m.states, "P17.4: behind Set and Step")
	}
	for _, bad := range append(trial.Endless(), trial.Noughts()...) {
		c := made(t, half())
		for _, st := range []api.State{{S1: bad}, {S2: bad}, {S1: bad, S2: bad}} {
			if e := c.Set([]api.State{st}); e != api.OK {
				t.Errorf("P17.4: Set(%v): %d", st, e)
			}
			stands(t, c, []api.State{st}, "P17.4: behind Set")
		}
	}
}

func TestSetOfOtherCounts(t *testing.T) {
	mix := trial.Mixer(177)
	for _, n := range []int{0, 1, 2, 15, 16} {
		f := filter(&mix, n)
		c := made(t, f)
		c.Run(mix.Numbers(3, mix.Middle))
		was := c.States()
		for count := range 19 {
			if count == n {
				continue
			}
			for _, other := range [][]api.State{make([]api.State, count), states(&mix, count), slices.Repeat([]api.State{{S1: complex(nan, 0)}}, count)} {
				if e := c.Set(other); e != api.ErrArg {
					t.Errorf("Errors: Set of %d states for %d sections: %d", count, n, e)
				}
				stands(t, c, was, "Errors: behind a Set that was refused")
			}
		}
		if n > 0 && c.Set(nil) != api.ErrArg {
			t.Errorf("Errors: Set of none for %d sections", n)
		}
		m := newModel(f)
		m.states = slices.Clone(was)
		x := mix.Numbers(1, mix.Middle)[0]
		trial.Is(t, c.Step(x), m.step(x), "Errors: Step behind a Set that was refused")
	}
}

func TestRest(t *testing.T) {
	mix := trial.Mixer(178)
	for round := range 60 {
		f := filter(&mix, round%4)
		c := made(t, f)
		for _, before := range [][]complex128{nil, mix.Numbers(3, mix.Float), list(complex(nan, nan)), list(complex(0, -infinity), 1), list(complex(minus, minus))} {
			c.Run(before)
			c.Rest()
			stands(t, c, make([]api.State, len(f.Sections)), "P17.4: Rest behind %v", before)
			samples := mix.Numbers(4, mix.Middle)
			are(t, c.Run(samples), newModel(f).run(samples), "P17.4: Run behind Rest")
		}
		low := api.State{S1: complex(minus, minus), S2: complex(minus, minus)}
		c.Set(slices.Repeat([]api.State{low}, len(f.Sections)))
		c.Rest()
		stands(t, c, make([]api.State, len(f.Sections)), "P17.4: Rest behind noughts of the other sign")
	}
}

func TestCopy(t *testing.T) {
	mix := trial.Mixer(179)
	for round := range 100 {
		f := filter(&mix, round%5)
		c, m := made(t, f), newModel(f)
		first := mix.Numbers(3, mix.Kind())
		are(t, c.Run(first), m.run(first), "P17.3: Run")
		d, n := c.Copy(), m.copy()
		if d == nil || d == c {
			t.Fatal("P17.4: Copy is no filter of its own")
		}
		stands(t, d, m.states, "P17.4: Copy")
		// Each goes on by itself, in turns, and so does a copy of the copy.
		third, o := d.Copy(), n.copy()
		for range 3 {
			for _, both := range []struct {
				c *cascade.Cascade
				m *model
			}{{c, m}, {d, n}, {third, o}} {
				samples := mix.Numbers(2, mix.Kind())
				are(t, both.c.Run(samples), both.m.run(samples), "P17.4: Run of a copy, or beside one")
			}
		}
		stands(t, c, m.states, "P17.4: what was copied")
		stands(t, d, n.states, "P17.4: the copy")
		c.Rest()
		d.Set(make([]api.State, len(f.Sections)))
		stands(t, third, o.states, "P17.4: the copy's copy")
	}
}

func TestNilCascade(t *testing.T) {
	var c *cascade.Cascade
	for _, x := range append(trial.Endless(), 1, 0) {
		trial.Is(t, c.Step(x), 0, "nil: Step(%v)", x)
	}
	for _, samples := range [][]complex128{nil, {}, list(1), list(1, 2, complex(nan, 0))} {
		if got := c.Run(samples); len(got) != 0 {
			t.Errorf("nil: Run(%v) = %v", samples, got)
		}
	}
	if got := c.States(); len(got) != 0 {
		t.Errorf("nil: States = %v", got)
	}
	for n := range 18 {
		if e := c.Set(make([]api.State, n)); e != api.ErrNone {
			t.Errorf("nil: Set of %d states: %d", n, e)
		}
	}
	if c.Set(nil) != api.ErrNone {
		t.Error("nil: Set of none")
	}
	if d := c.Copy(); d != nil {
		t.Errorf("nil: Copy = %v", d)
	}
	c.Rest()
}

func TestNoneOfNewPanics(t *testing.T) {
	// Of these nothing is promised but that they end.
	var empty cascade.Cascade
	shared := *made(t, half())
	for _, c := range []*cascade.Cascade{&empty, &shared, empty.Copy(), shared.Copy()} {
		c.Step(1)
		c.Run(list(1, complex(nan, 0)))
		c.Set(nil)
		c.Set(make([]api.State, 1))
		c.States()
		c.Rest()
		c.Copy()
	}
}
