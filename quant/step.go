package quant

import "quaver/api"

// kept is n kept within 32 bits.
func kept(n int64) int64 {
	n, _ = within(n)
	return n
}

func keptSection(f api.Fixed) api.Fixed {
	return api.Fixed{Bits: f.Bits, B0: kept(f.B0), B1: kept(f.B1), B2: kept(f.B2), A1: kept(f.A1), A2: kept(f.A2)}
}

func keptState(st api.FixedState) api.FixedState {
	return api.FixedState{X1: kept(st.X1), X2: kept(st.X2), Y1: kept(st.Y1), Y2: kept(st.Y2)}
}

// Step: one sample; whether the answer had to be kept within.
func Step(f api.Fixed, st api.FixedState, x int64) (int64, api.FixedState, bool) {
	if !fits(f.Bits) {
		return 0, api.FixedState{}, false
	}
	f, st, x = keptSection(f), keptState(st), kept(x)
	var s total
	s = s.plus(f.B0 * x).plus(f.B1 * st.X1).plus(f.B2 * st.X2).plus(-f.A1 * st.Y1).plus(-f.A2 * st.Y2)
	y, out := within(s.over(f.Bits))
	return y, api.FixedState{X1: x, X2: st.X1, Y1: y, Y2: st.Y1}, out
}

// Run: samples, one behind the other.
func Run(f api.Fixed, st api.FixedState, list []int64) ([]int64, api.FixedState, int) {
	answers := make([]int64, len(list))
	count := 0
	for i, x := range list {
		var out bool
		if answers[i], st, out = Step(f, st, x); out {
			count++
		}
	}
	return answers, st, count
}

// mostSteps is how many steps Cycle looks ahead.
const mostSteps = 1 << 20

// Cycle: without further samples: how many steps till a state comes again, and how long it takes to come; within so many steps.
func Cycle(f api.Fixed, st api.FixedState, steps int) (int, int, api.Errno) {
	if steps < 0 || steps > mostSteps || !fits(f.Bits) {
		return 0, 0, api.ErrArg
	}
	st = keptState(st)
	b, found := period(f, st, steps)
	if !found {
		return 0, 0, api.ErrNone
	}
	a := lead(f, st, b)
	if a+b > steps {
		return 0, 0, api.ErrNone
	}
	return a, b, api.OK
}

// next is the state behind st, when nothing comes in.
func next(f api.Fixed, st api.FixedState) api.FixedState {
	_, st, _ = Step(f, st, 0)
	return st
}

// period is how long the states behind st take to come again. It is found for certain, if st leads into its cycle and once round it in so many steps, and may be found, if not.
func period(f api.Fixed, st api.FixedState, steps int) (int, bool) {
	// No list of all states is kept: one is held till twice as many have gone by as by the one that was held before.
	held := st
	for turns := 1; turns < 2*steps; turns *= 2 {
		for b := range turns {
			st = next(f, st)
			if st == held {
				return b + 1, true
			}
		}
		held = st
	}
	return 0, false
}

// lead is how many states stand ahead of the cycle that st leads to, which is so long.
func lead(f api.Fixed, st api.FixedState, period int) int {
	ahead := st
	for range period {
		ahead = next(f, ahead)
	}
	a := 0
	for st != ahead {
		st, ahead = next(f, st), next(f, ahead)
		a++
	}
	return a
}
