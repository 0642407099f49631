package gauss_test

import (
	"testing"

	"quaver/api"
	"quaver/gauss"
	"quaver/trial"
)

// calls: every call that answers exact numbers, of two numbers.
func calls() map[string]trial.Call {
	answer := func(g api.Gauss, _ api.Errno) []trial.Numbers { return []trial.Numbers{{g}} }
	list := map[string]trial.Call{
		"Int":  func([]trial.Numbers) []trial.Numbers { return answer(gauss.Int(1, 1), api.OK) },
		"From": func([]trial.Numbers) []trial.Numbers { return answer(gauss.From(complex(1, 1))) },
		"Norm": func(args []trial.Numbers) []trial.Numbers {
			r, e := gauss.Norm(args[0][0])
			return answer(api.Gauss{Re: r}, e)
		},
		"Form, To, Equal": func(args []trial.Numbers) []trial.Numbers {
			a, b := args[0][0], args[1][0]
			gauss.Form(a)
			gauss.To(a)
			gauss.Equal(a, b)
			return nil
		},
	}
	for _, op := range binaries() {
		list[op.name] = func(args []trial.Numbers) []trial.Numbers { return answer(op.call(args[0][0], args[1][0])) }
	}
	for _, op := range unaries() {
		list[op.name] = func(args []trial.Numbers) []trial.Numbers { return answer(op.call(args[0][0])) }
	}
	return list
}

func TestMemory(t *testing.T) {
	// Noughts and ones are among them, of which a call might hand parts on.
	list := []api.Gauss{of(0, 1, 0, 1), of(1, 1, 0, 1), of(0, 1, 1, 1), of(1, 1, 1, 1), of(-1, 1, 0, 1), of(2, 3, 2, 3), of(2, 3, -5, 7), {Re: api.Rat{Num: []uint64{1, 2, 3}, Den: []uint64{7, 7}}, Im: api.Rat{Neg: true, Num: []uint64{1}, Den: []uint64{0, 0, 8}}}}
	for name, call := range calls() {
		for _, a := range list {
			for _, b := range list {
				if fault := trial.Touched(call, trial.Numbers{a}, trial.Numbers{b}); fault != "" {
					t.Errorf("P5.5: %s(%v, %v): %s", name, a, b, fault)
				}
			}
		}
		if fault := trial.Beside(call, list[6:7], list[7:8]); fault != "" {
			t.Errorf("P2: %s: %s", name, fault)
		}
	}
}
