package resp_test

import (
	"slices"
	"testing"

	"quaver/api"
	"quaver/resp"
	"quaver/trial"
)

// rowed is a filter as a list of numbers, the gain first, read back by filterOf.
func rowed(f api.Filter) []complex128 {
	row := list(f.Gain)
	for _, s := range f.Sections {
		row = append(row, trial.Row(s)...)
	}
	return row
}

func filterOf(row []complex128) api.Filter {
	f := of(row[0])
	for c := range slices.Chunk(row[1:], 5) {
		f.Sections = append(f.Sections, trial.Section(c))
	}
	return f
}

// calls answers what At, Grid and Peak tell, in lists: args are a filter, and points.
func calls(args [][]complex128) [][]complex128 {
	f := filterOf(args[0])
	told := [][]complex128{}
	for _, k := range []int{-1, 0, 3} {
		answers, e := resp.Grid(f, k)
		told = append(told, list(complex(float64(e), 0)), answers)
	}
	for _, z := range args[1] {
		a, e := resp.At(f, z)
		told = append(told, list(a, complex(float64(e), 0)))
	}
	place, size, e := resp.Peak(args[1])
	return append(told, list(complex(float64(place), size), complex(float64(e), 0)))
}

func TestMemory(t *testing.T) {
	mix := trial.Mixer(232)
	for range 20 {
		row, points := rowed(mixed(&mix, 4, mix.Kind())), append(mix.Numbers(4, mix.Float), mix.Few(2)...)
		if fault := trial.TouchedLists(calls, row, points); fault != "" {
			t.Errorf("Memory: %v, %v: %s", row, points, fault)
		}
		if fault := trial.BesideLists(calls, row, points); fault != "" {
			t.Errorf("P2: %v, %v: %s", row, points, fault)
		}
	}
}

func TestMemoryOfExactNumbers(t *testing.T) {
	f := of(complex(0.5, 1), api.Section{B0: 1, B1: 1i, A1: -0.5, A2: 0.25i}, half().Sections[0])
	for _, f := range []api.Filter{f, of(2), of(0), of(1, api.Section{B0: 1}), of(complex(nan, 0))} {
		call := func(args []trial.Numbers) []trial.Numbers {
			var told []trial.Numbers
			for _, z := range args[0] {
				g, e := resp.Exact(f, z)
				r, e2 := resp.Far(complex(0.25, 1), z)
				told = append(told, trial.Numbers{g, {Re: r}, trial.Whole(int64(e), int64(e2))})
			}
			return told
		}
		third := trial.Frac(1, 3)
		points := trial.Numbers{trial.Whole(1, 0), trial.Whole(0, 0), trial.Whole(2, -3), trial.Fraction(2, 1, 7).Gauss(), {Re: third, Im: third}, {Re: third, Im: trial.Frac(2, 5)}, trial.Fraction(1, 0, 2).Gauss(), {}}
		if fault := trial.Touched(call, points); fault != "" {
			t.Errorf("Memory: %v: %s", f, fault)
		}
		if fault := trial.Beside(call, points); fault != "" {
			t.Errorf("P2: %v: %s", f, fault)
		}
	}
}

// A filter that is handed in stays, its spare room too, and so does a list.
func TestFilterStays(t *testing.T) {
	mix := trial.Mixer(233)
	mark := api.Section{B0: 77, A2: -77}
	for n := range 5 {
		sections := []api.Section{}
		for range n {
			sections = append(sections, mix.Section(mix.Middle))
		}
		roomy := append(slices.Clone(sections), mark, mark)[:n]
		f := of(0.5, roomy...)
		resp.At(f, complex(0.6, 0.8))
		resp.Grid(f, 3)
		resp.Exact(f, trial.Fraction(3, 4, 5).Gauss())
		if !slices.EqualFunc(f.Sections, sections, trial.AlikeSection) || !slices.Equal(roomy[n:n+2], []api.Section{mark, mark}) || f.Gain != 0.5 {
			t.Errorf("Memory: a filter of %d sections is changed", n)
		}
	}
}
