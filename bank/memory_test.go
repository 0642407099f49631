package bank_test

import (
	"slices"
	"testing"

	"quaver/api"
	"quaver/bank"
	"quaver/trial"
)

// calls answers what Mix, Pipe and Play do, in lists: args are the gains, the sections' coefficients and samples. All filters have all sections.
func calls(args [][]complex128) [][]complex128 {
	var sections []api.Section
	for c := range slices.Chunk(args[1], 5) {
		sections = append(sections, trial.Section(c))
	}
	var fs []api.Filter
	for _, g := range args[0] {
		fs = append(fs, api.Filter{Gain: g, Sections: sections})
	}
	var turns []bank.Turn
	for i, x := range args[2] {
		turns = append(turns, bank.Turn{Filter: i % len(fs), X: x})
	}
	mixed, e := bank.Mix(fs, args[2], 3)
	piped, f := bank.Pipe(fs, args[2])
	bare, g := bank.Pipe(nil, args[2])
	played, h := bank.Play(fs, turns)
	clear(fs)
	clear(sections)
	return [][]complex128{mixed, piped, bare, played, list(complex(float64(e+f), float64(g+h)))}
}

func TestMemory(t *testing.T) {
	mix := trial.Mixer(527)
	for n := range 3 {
		for _, samples := range [][]complex128{nil, {}, list(1), mix.Numbers(7, mix.Middle), mix.Few(4), mix.Numbers(5, mix.Float)} {
			if fault := trial.TouchedLists(calls, mix.Numbers(3, mix.Middle), mix.Numbers(5*n, mix.Middle), samples); fault != "" {
				t.Errorf("Memory: %d sections, %v: %s", n, samples, fault)
			}
		}
	}
	if fault := trial.BesideLists(calls, mix.Numbers(9, mix.Middle), mix.Numbers(10, mix.Middle), mix.Numbers(50, mix.Middle)); fault != "" {
		t.Errorf("P2: %s", fault)
	}
}

func TestMemoryOfFilters(t *testing.T) {
	mix := trial.Mixer(528)
	f := mix.Filter(2)
	spare := api.Section{B0: 77, A2: -77}
	sections := append(slices.Clone(f.Sections), spare)
	given := slices.Repeat([]api.Filter{{Gain: f.Gain, Sections: sections[:2]}}, 3)
	roomy := append(given, double())
	turns := []bank.Turn{{0, 1}, {2, 2}, {0, 3}, {77, 77}}
	bank.Mix(roomy[:3], list(1, 2, 3), 2)
	bank.Pipe(roomy[:3], list(1, 2, 3))
	bank.Play(roomy[:3], turns[:3])
	if !slices.EqualFunc(sections, append(slices.Clone(f.Sections), spare), trial.AlikeSection) || roomy[3].Gain != 2 || !slices.Equal(turns, []bank.Turn{{0, 1}, {2, 2}, {0, 3}, {77, 77}}) {
		t.Error("Memory: what was handed in is changed")
	}
	for _, g := range roomy[:3] {
		if !trial.AlikeNumber(g.Gain, f.Gain) || len(g.Sections) != 2 {
			t.Error("Memory: the filters that were handed in are changed")
		}
	}
}

func TestTheSameEachTime(t *testing.T) {
	mix := trial.Mixer(529)
	fs, samples := tame(&mix, 30), mix.Numbers(100, mix.Middle)
	var turns []bank.Turn
	for _, x := range samples {
		turns = append(turns, bank.Turn{Filter: mix.Below(30), X: x})
	}
	first, _ := bank.Mix(fs, samples, 1)
	second, _ := bank.Pipe(fs, samples)
	third, _ := bank.Play(fs, turns)
	for workers := 1; workers <= 64; workers++ {
		y, e := bank.Mix(fs, samples, workers)
		tells(t, y, e, first, "P26.5: Mix with %d workers", workers)
		y, e = bank.Pipe(fs, samples)
		tells(t, y, e, second, "P26.5: Pipe")
		y, e = bank.Play(fs, turns)
		tells(t, y, e, third, "P26.5: Play")
	}
}
