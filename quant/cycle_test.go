package quant_test

import (
	"math"
	"testing"

	"quaver/api"
	"quaver/quant"
	"quaver/trial"
)

// comes holds Cycle against what is wanted.
func comes(t *testing.T, f api.Fixed, st api.FixedState, steps, a, b int, wrong api.Errno) {
	t.Helper()
	if x, y, e := quant.Cycle(f, st, steps); x != a || y != b || e != wrong {
		t.Errorf("P25.5: Cycle(%v, %v, %d) = %d, %d, %d, want %d, %d, %d", f, st, steps, x, y, e, a, b, wrong)
	}
}

// cut holds Cycle against a, b with just enough steps, one fewer, and more.
func cut(t *testing.T, f api.Fixed, st api.FixedState, a, b int) {
	t.Helper()
	for steps := range a + b {
		if steps < 9 || steps > a+b-9 || steps%97 == 0 {
			comes(t, f, st, steps, 0, 0, api.ErrNone)
		}
	}
	for _, steps := range []int{a + b, a + b + 1, 2*(a+b) + 1, 1 << 20} {
		comes(t, f, st, min(steps, 1<<20), a, b, api.OK)
	}
}

func TestCycleExamples(t *testing.T) {
	held, turned := api.Fixed{Bits: 1, A1: -2}, api.Fixed{Bits: 1, A1: 2}
	cut(t, held, api.FixedState{Y1: 7}, 1, 1)
	cut(t, turned, api.FixedState{Y1: 7}, 1, 2)
	cut(t, api.Fixed{Bits: 1}, api.FixedState{}, 0, 1)
	cut(t, api.Fixed{Bits: 1}, api.FixedState{X1: 3}, 2, 1)
	cut(t, api.Fixed{Bits: 1}, api.FixedState{X2: 3}, 1, 1)
	cut(t, api.Fixed{Bits: 1}, api.FixedState{Y1: 3}, 2, 1)
	cut(t, api.Fixed{Bits: 1, A2: 2}, api.FixedState{Y1: 3}, 0, 4)
	// The first state is kept within: it is the one that comes again.
	cut(t, held, api.FixedState{Y1: math.MaxInt64, Y2: high}, 0, 1)
	cut(t, api.Fixed{Bits: 1, A2: -2}, api.FixedState{Y1: math.MinInt64, Y2: 1 << 33}, 0, 2)
	// A pole a little inside the circle comes to rest at 8, not at nought: 7.5 is rounded to it.
	cut(t, api.Fixed{Bits: 4, A1: -15}, api.FixedState{Y1: 100}, 38, 1)
}

func TestCycleErrors(t *testing.T) {
	good := api.Fixed{Bits: 1, A1: 2}
	for _, steps := range []int{-1, math.MinInt, 1<<20 + 1, math.MaxInt} {
		comes(t, good, api.FixedState{}, steps, 0, 0, api.ErrArg)
		comes(t, api.Fixed{}, api.FixedState{Y1: 1}, steps, 0, 0, api.ErrArg)
	}
	for _, bits := range []int{0, 32, -1, math.MaxInt, math.MinInt} {
		for _, steps := range []int{0, 1, 5, 1 << 20} {
			comes(t, api.Fixed{Bits: bits, A1: 2}, api.FixedState{Y1: 1}, steps, 0, 0, api.ErrArg)
			comes(t, api.Fixed{Bits: bits}, api.FixedState{}, steps, 0, 0, api.ErrArg)
		}
	}
	comes(t, good, api.FixedState{}, 0, 0, 0, api.ErrNone)
	comes(t, good, api.FixedState{}, 1<<20, 0, 1, api.OK)
}

func TestCycleByAListOfStates(t *testing.T) {
	mix := trial.Mixer(510)
	for round := range 400 {
		bits := 1 + round%api.MaxBits
		one := float64(int64(1) << bits)
		// Poles on the circle and a little inside, where cycles are long; or anything.
		turn := math.Cos(float64(mix.Below(1000)) / 300)
		f := api.Fixed{Bits: bits, B0: 3, B1: number(&mix), B2: number(&mix), A1: int64(-2 * turn * one), A2: int64(one) - int64(mix.Below(3))}
		if round%4 == 0 {
			f = section(bits, func() int64 { return number(&mix) })
		}
		small := func() int64 { return int64(mix.Below(41) - 20) }
		st := state(small)
		if round%5 == 0 {
			st = state(func() int64 { return number(&mix) })
		}
		const most = 700
		a, b, e := cycle(f, st, most)
		comes(t, f, st, most, a, b, e)
		if e == api.OK {
			comes(t, f, st, a+b, a, b, api.OK)
			comes(t, f, st, a+b-1, 0, 0, api.ErrNone)
		}
	}
}

func TestLongCycles(t *testing.T) {
	// Answers that grow by 1 each step till they are kept within: y = 2 y1 - y2.
	ramp := api.Fixed{Bits: 1, A1: -4, A2: 2}
	lead := 3000
	st := api.FixedState{Y1: high - int64(lead), Y2: high - int64(lead) - 1}
	a, b, e := cycle(ramp, st, 1<<13)
	if e != api.OK || a < lead {
		t.Fatalf("the model: %d, %d, %d", a, b, e)
	}
	cut(t, ramp, st, a, b)
	// As far as may be, and one step farther.
	far := func(by int64) api.FixedState {
		y := high - (1<<20 - int64(a-lead) - int64(b)) + by
		return api.FixedState{Y1: y, Y2: y - 1}
	}
	comes(t, ramp, far(0), 1<<20, 1<<20-b, b, api.OK)
	comes(t, ramp, far(0), 1<<20-1, 0, 0, api.ErrNone)
	comes(t, ramp, far(-1), 1<<20, 0, 0, api.ErrNone)
	comes(t, ramp, far(1), 1<<20, 1<<20-b-1, b, api.OK)
	// A ring that goes round and round is longer than can be looked through.
	comes(t, api.Fixed{Bits: 30, A1: -1900000001, A2: 1 << 30}, api.FixedState{Y1: 1 << 30}, 1<<20, 0, 0, api.ErrNone)
}
