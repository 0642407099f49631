package proto_test

import (
	"testing"

	"quaver/api"
	"quaver/proto"
	"quaver/trial"
)

// rows are a filter and an error as lists.
func rows(f api.Zpk, e api.Errno) [][]complex128 {
	return [][]complex128{f.Zeros, f.Poles, list(f.Gain, complex(float64(e), 0))}
}

func TestMemoryOfLists(t *testing.T) {
	calls := map[string]trial.ListCall{
		"Allpass": func(args [][]complex128) [][]complex128 { return rows(proto.Allpass(args[0])) },
		"Notch":   func(args [][]complex128) [][]complex128 { return rows(proto.Notch(1i, 0.5)) },
		"Poles": func(args [][]complex128) [][]complex128 {
			p, e := proto.Poles(len(args[0]))
			return [][]complex128{p, list(complex(float64(e), 0))}
		},
		"Low":  func(args [][]complex128) [][]complex128 { return rows(proto.Low(len(args[0]), trial.Frac(2, 7))) },
		"High": func(args [][]complex128) [][]complex128 { return rows(proto.High(len(args[0]), trial.Frac(2, 7))) },
	}
	for name, call := range calls {
		for _, poles := range [][]complex128{nil, {}, list(0.5), list(0.5, 0.5i), list(0.5, 2), list(0.5, 0.25, 0), list(0.5, 0.25, 0.125, 0.0625), list(complex(nan, 0), 0.5), make([]complex128, 30)} {
			if fault := trial.TouchedLists(call, poles); fault != "" {
				t.Errorf("Memory: %s, %v: %s", name, poles, fault)
			}
		}
		if fault := trial.BesideLists(call, list(0.5, complex(0.25, 0.5), 0.125, 0.5i)); fault != "" {
			t.Errorf("P2: %s: %s", name, fault)
		}
	}
}

func TestMemoryOfTangents(t *testing.T) {
	for name, made := range passes() {
		call := func(args []trial.Numbers) []trial.Numbers {
			var told []trial.Numbers
			for _, x := range args[0] {
				f, e := made(2, x.Re)
				told = append(told, trial.Numbers{trial.Whole(int64(e), int64(len(f.Poles)))})
				for _, p := range append(f.Poles, f.Gain) {
					told = append(told, trial.Numbers{trial.Exactly(p).Gauss()})
				}
			}
			return told
		}
		given := trial.Numbers{trial.Whole(1, 0), trial.Whole(0, 0), {Re: trial.Frac(1, 3), Im: trial.Frac(0, 1)}, {Re: trial.Frac(22, 7), Im: trial.Frac(0, 1)}, {}, {Re: api.Rat{Num: []uint64{5, 6}, Den: []uint64{7, 8, 9}}, Im: trial.Frac(0, 1)}}
		if fault := trial.Touched(call, given); fault != "" {
			t.Errorf("Memory: %s: %s", name, fault)
		}
		if fault := trial.Beside(call, given); fault != "" {
			t.Errorf("P2: %s: %s", name, fault)
		}
	}
}
