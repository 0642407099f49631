package bilin_test

import (
	"testing"

	"quaver/api"
	"quaver/bilin"
	"quaver/trial"
)

// calls are all of them, of a polynomial and a number, whose real part is t, too.
func calls() map[string]trial.Call {
	answer := func(p api.Poly, e api.Errno) []trial.Numbers {
		return []trial.Numbers{trial.Numbers(p), {trial.Whole(int64(e), 0)}}
	}
	list := map[string]trial.Call{
		"Point": func(args []trial.Numbers) []trial.Numbers {
			var told []trial.Numbers
			for _, s := range args[0] {
				z, e := bilin.Point(s, args[1][0].Re)
				told = append(told, trial.Numbers{z, trial.Whole(int64(e), 0)})
			}
			return told
		},
		"Spin": func(args []trial.Numbers) []trial.Numbers { return answer(bilin.Spin(api.Poly(args[0]), args[1][0])) },
		"Comb": func(args []trial.Numbers) []trial.Numbers { return answer(bilin.Comb(api.Poly(args[0]), 3)) },
		"once": func(args []trial.Numbers) []trial.Numbers { return answer(bilin.Comb(api.Poly(args[0]), 1)) },
		"Flip": func(args []trial.Numbers) []trial.Numbers { return answer(bilin.Flip(api.Poly(args[0]))) },
	}
	for name, call := range across() {
		list[name] = func(args []trial.Numbers) []trial.Numbers {
			return append(answer(call(api.Poly(args[0]), 3, args[1][0].Re)), answer(call(api.Poly(args[0]), len(args[0]), args[1][0].Re))...)
		}
	}
	return list
}

func TestMemory(t *testing.T) {
	third := api.Gauss{Re: trial.Frac(1, 3), Im: trial.Frac(1, 3)}
	polys := []api.Poly{{}, trial.Reals(1), trial.Reals(0, 1), trial.Reals(1, 1), trial.Reals(-1, 0, 0, 1), {third}, {third, third, trial.Whole(1, 0)}, {trial.Whole(0, 0), third, trial.Whole(0, 2)}, trial.Reals(0, 0, 0, 0, 5), trial.Reals(1, 0), dense(3)}
	for name, call := range calls() {
		for _, p := range polys {
			for _, u := range []api.Gauss{trial.Whole(1, 0), trial.Whole(1, 1), trial.Whole(0, 0), third, trial.Whole(-2, 3), {}} {
				if fault := trial.Touched(call, trial.Numbers(p), trial.Numbers{u}); fault != "" {
					t.Errorf("Memory: %s of %v and %v: %s", name, p, u, fault)
				}
			}
		}
		if fault := trial.Beside(call, trial.Numbers(polys[6]), trial.Numbers{third}); fault != "" {
			t.Errorf("P2: %s: %s", name, fault)
		}
	}
}
