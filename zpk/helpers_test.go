package zpk_test

import (
	"math"
	"slices"

	"quaver/api"
	"quaver/trial"
	"quaver/zpk"
)

var (
	minus    = math.Copysign(0, -1)
	infinity = math.Inf(1)
	nan      = math.NaN()
)

// same: number by number, bit by bit.
func same(f, g api.Zpk) bool {
	return trial.AlikeNumbers(f.Zeros, g.Zeros) && trial.AlikeNumbers(f.Poles, g.Poles) && trial.AlikeNumber(f.Gain, g.Gain)
}

// list is these numbers.
func list(numbers ...complex128) []complex128 {
	return numbers
}

// exactly is these numbers as the exact ones that they are.
func exactly(numbers []complex128) []trial.Complex {
	var all []trial.Complex
	for _, z := range numbers {
		all = append(all, trial.Exactly(z))
	}
	return all
}

// call is a call of one filter. It tells whether all beside the error is its zero value.
type call func(f api.Zpk) (zero bool, e api.Errno)

func bare(f api.Zpk) bool {
	return len(f.Zeros) == 0 && len(f.Poles) == 0 && trial.AlikeNumber(f.Gain, 0)
}

// makers are the calls of one filter that answer one.
func makers() map[string]func(f api.Zpk) (api.Zpk, api.Errno) {
	plain := api.Zpk{Gain: 1}
	return map[string]func(f api.Zpk) (api.Zpk, api.Errno){
		"Canon":      zpk.Canon,
		"Over":       zpk.Over,
		"Tame":       zpk.Tame,
		"Series":     func(f api.Zpk) (api.Zpk, api.Errno) { return zpk.Series(f, plain) },
		"Series too": func(f api.Zpk) (api.Zpk, api.Errno) { return zpk.Series(plain, f) },
	}
}

// calls are all calls.
func calls() map[string]call {
	all := map[string]call{
		"Check": func(f api.Zpk) (bool, api.Errno) { return true, zpk.Check(f) },
		"Real": func(f api.Zpk) (bool, api.Errno) {
			yes, e := zpk.Real(f)
			return !yes, e
		},
		"Stable": func(f api.Zpk) (bool, api.Errno) {
			yes, e := zpk.Stable(f)
			return !yes, e
		},
		"Polys": func(f api.Zpk) (bool, api.Errno) {
			p, q, e := zpk.Polys(f)
			return len(p) == 0 && len(q) == 0, e
		},
	}
	for name, made := range makers() {
		all[name] = func(f api.Zpk) (bool, api.Errno) {
			g, e := made(f)
			return bare(g), e
		}
	}
	return all
}

// clone is f in memory of its own.
func clone(f api.Zpk) api.Zpk {
	return api.Zpk{Zeros: slices.Clone(f.Zeros), Poles: slices.Clone(f.Poles), Gain: f.Gain}
}
