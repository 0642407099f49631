package run_test

import (
	"slices"
	"testing"

	"quaver/api"
	"quaver/run"
	"quaver/trial"
)

// calls answers what All, Direct and Exact do, in lists: args are a section, a state and samples.
func calls(args [][]complex128) [][]complex128 {
	s, st := trial.Section(args[0]), api.State{S1: args[1][0], S2: args[1][1]}
	answers, end := run.All(s, st, args[2])
	again, _ := run.All(s, st, args[2])
	exact, e := run.Exact(s, args[2])
	near := list(complex(float64(e), 0), end.S1, end.S2)
	for _, g := range exact {
		near = append(near, trial.ValueGauss(g).Near())
	}
	return [][]complex128{answers, again, run.Direct(s, args[2]), run.Direct(s, args[2]), near}
}

func TestMemory(t *testing.T) {
	mix := trial.Mixer(170)
	samples := append(lists(&mix, mix.Float), mix.Numbers(20, mix.Middle), nil, list(), mix.Few(9))
	for _, xs := range samples {
		s, st := mix.Numbers(5, mix.Middle), mix.Few(2)
		if fault := trial.TouchedLists(calls, s, st, xs); fault != "" {
			t.Errorf("Memory: All, Direct and Exact of %v: %s", xs, fault)
		}
	}
	if fault := trial.BesideLists(calls, mix.Numbers(5, mix.Middle), mix.Numbers(2, mix.Middle), mix.Numbers(30, mix.Middle)); fault != "" {
		t.Errorf("P2: All, Direct and Exact: %s", fault)
	}
	if a, _ := run.All(api.Section{}, api.State{}, nil); len(a) != 0 || len(run.Direct(api.Section{}, nil)) != 0 {
		t.Error("P16.2, P16.3: answers to no samples")
	}
}

func TestMemoryOfExact(t *testing.T) {
	call := func(args []trial.Numbers) []trial.Numbers {
		var all []complex128
		for _, g := range args[0] {
			all = append(all, trial.ValueGauss(g).Near())
		}
		answers, _ := run.Exact(trial.Section(all), all[5:])
		return []trial.Numbers{answers}
	}
	for _, p := range []api.Poly{
		trial.Reals(1, 1, 1, 1, 1), trial.Reals(0, 0, 0, 0, 0, 1, 2, 3), trial.Reals(1, 0, 0, 0, 0, 7, 7, 7), trial.Reals(1, 0, 0, -1, 0, 1, 0, 0, 0),
		slices.Repeat(api.Poly{trial.Fraction(3, -5, 8).Gauss()}, 12),
	} {
		if fault := trial.Touched(call, trial.Numbers(p)); fault != "" {
			t.Errorf("Memory: Exact of %v: %s", p, fault)
		}
		if fault := trial.Beside(call, trial.Numbers(p)); fault != "" {
			t.Errorf("P2: Exact of %v: %s", p, fault)
		}
	}
}
