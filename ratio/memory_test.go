package ratio_test

import (
	"testing"

	"quaver/api"
	"quaver/ratio"
	"quaver/trial"
)

// calls: every call that takes or answers Rats, of two numbers, which are the real parts of what is handed in.
func calls() map[string]trial.Call {
	of := func(call func(a, b api.Rat) (api.Rat, api.Errno)) trial.Call {
		return func(args []trial.Numbers) []trial.Numbers {
			r, _ := call(args[0][0].Re, args[1][0].Re)
			return []trial.Numbers{{{Re: r}}}
		}
	}
	list := map[string]trial.Call{
		"Make":  of(func(a, b api.Rat) (api.Rat, api.Errno) { return ratio.Make(a.Neg, a.Num, b.Num) }),
		"Int":   of(func(a, b api.Rat) (api.Rat, api.Errno) { return ratio.Int(int64(len(a.Num))), api.OK }),
		"From":  of(func(a, b api.Rat) (api.Rat, api.Errno) { return ratio.From(1) }),
		"Neg":   of(func(a, b api.Rat) (api.Rat, api.Errno) { return ratio.Neg(a) }),
		"Floor": of(func(a, b api.Rat) (api.Rat, api.Errno) { return ratio.Floor(a) }),
		"Form, Cmp, To, To32": of(func(a, b api.Rat) (api.Rat, api.Errno) {
			ratio.Form(a)
			ratio.Cmp(a, b)
			ratio.To(a)
			ratio.To32(a)
			return api.Rat{}, api.OK
		}),
	}
	for _, op := range binaries() {
		list[op.name] = of(op.call)
	}
	return list
}

func TestMemory(t *testing.T) {
	// Noughts and ones are among them, of which a call might hand on what it was given.
	list := []api.Rat{trial.Frac(0, 1), trial.Frac(1, 1), trial.Frac(-1, 1), trial.Frac(3, 1), trial.Frac(2, 3), trial.Frac(-5, 2), {Num: []uint64{1, 2, 3}, Den: []uint64{7, 7}}, {Neg: true, Num: []uint64{1}, Den: []uint64{0, 0, 8}}}
	for name, call := range calls() {
		for _, a := range list {
			for _, b := range list {
				if fault := trial.Touched(call, trial.Numbers{{Re: a}}, trial.Numbers{{Re: b}}); fault != "" {
					t.Errorf("Memory: %s(%v, %v): %s", name, a, b, fault)
				}
			}
		}
		if fault := trial.Beside(call, trial.Numbers{{Re: list[6]}}, trial.Numbers{{Re: list[7]}}); fault != "" {
			t.Errorf("P2: %s: %s", name, fault)
		}
	}
}

func TestNilAndEmptyAreTheSame(t *testing.T) {
	a, b := api.Rat{Num: nil, Den: []uint64{1}}, api.Rat{Num: []uint64{}, Den: []uint64{1}}
	if !ratio.Form(a) || !ratio.Form(b) || ratio.Form(api.Rat{Num: []uint64{1}, Den: []uint64{}}) {
		t.Error("P2.1: Form tells nil and empty lists apart")
	}
	if c, e := ratio.Cmp(a, b); c != 0 || e != api.OK {
		t.Errorf("P2.6: Cmp of nil and empty: %d, %d", c, e)
	}
	_, e := ratio.Make(false, nil, []uint64{})
	_, f := ratio.Make(false, []uint64{}, nil)
	if e != api.ErrZero || f != api.ErrZero {
		t.Errorf("P2.2: Make of nil and empty: %d, %d", e, f)
	}
}
