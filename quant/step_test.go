package quant_test

import (
	"math"
	"slices"
	"testing"

	"quaver/api"
	"quaver/quant"
	"quaver/trial"
)

func TestStepExamples(t *testing.T) {
	rest := api.FixedState{}
	for _, c := range []struct {
		f    api.Fixed
		st   api.FixedState
		x, y int64
		next api.FixedState
		out  bool
	}{
		{api.Fixed{Bits: 1, B0: 2}, rest, 5, 5, api.FixedState{X1: 5, Y1: 5}, false},
		{api.Fixed{Bits: 1, B0: 1}, rest, 1, 0, api.FixedState{X1: 1}, false},
		{api.Fixed{Bits: 1, B0: 1}, rest, 3, 2, api.FixedState{X1: 3, Y1: 2}, false},
		{api.Fixed{Bits: 1, B0: 1}, rest, -1, 0, api.FixedState{X1: -1}, false},
		{api.Fixed{Bits: 1, B0: 1}, rest, -3, -2, api.FixedState{X1: -3, Y1: -2}, false},
		{api.Fixed{Bits: 31, B0: 1 << 40}, rest, 1 << 30, 1 << 30, api.FixedState{X1: 1 << 30, Y1: 1 << 30}, false},
		{api.Fixed{Bits: 31, B0: 1 << 40}, rest, 1 << 50, high - 1, api.FixedState{X1: high, Y1: high - 1}, false},
		{api.Fixed{Bits: 31, B0: math.MinInt64}, rest, math.MinInt64, high, api.FixedState{X1: low, Y1: high}, true},
		// Each number has its place.
		{api.Fixed{Bits: 1, B0: 2}, api.FixedState{X1: 10, X2: 20, Y1: 30, Y2: 40}, 5, 5, api.FixedState{X1: 5, X2: 10, Y1: 5, Y2: 30}, false},
		{api.Fixed{Bits: 1, B1: 2}, api.FixedState{X1: 10, X2: 20, Y1: 30, Y2: 40}, 5, 10, api.FixedState{X1: 5, X2: 10, Y1: 10, Y2: 30}, false},
		{api.Fixed{Bits: 1, B2: 2}, api.FixedState{X1: 10, X2: 20, Y1: 30, Y2: 40}, 5, 20, api.FixedState{X1: 5, X2: 10, Y1: 20, Y2: 30}, false},
		{api.Fixed{Bits: 1, A1: 2}, api.FixedState{X1: 10, X2: 20, Y1: 30, Y2: 40}, 5, -30, api.FixedState{X1: 5, X2: 10, Y1: -30, Y2: 30}, false},
		{api.Fixed{Bits: 1, A2: 2}, api.FixedState{X1: 10, X2: 20, Y1: 30, Y2: 40}, 5, -40, api.FixedState{X1: 5, X2: 10, Y1: -40, Y2: 30}, false},
		// At the ends: what is rounded back to them was not kept within.
		{api.Fixed{Bits: 31, B0: low, B1: 1}, api.FixedState{X1: -1 << 30}, high + 1, low, api.FixedState{X1: high, X2: -1 << 30, Y1: low}, false},
		{api.Fixed{Bits: 31, B0: 1 << 30, B1: 1 << 30, A1: 1}, api.FixedState{X1: low, Y1: 1 << 30}, low, low, api.FixedState{X1: low, X2: low, Y1: low, Y2: 1 << 30}, false},
		{api.Fixed{Bits: 31, B0: 1 << 30, B1: 1 << 30, A1: 2}, api.FixedState{X1: low, Y1: 1<<30 + 1}, low, low, api.FixedState{X1: low, X2: low, Y1: low, Y2: 1<<30 + 1}, true},
		{api.Fixed{Bits: 1, B0: 1}, api.FixedState{}, high, 1 << 30, api.FixedState{X1: high, Y1: 1 << 30}, false},
	} {
		steps(t, c.f, c.st, c.x, c.y, c.next, c.out)
	}
}

func TestStepWithWrongBits(t *testing.T) {
	mix := trial.Mixer(505)
	rule := func() int64 { return number(&mix) }
	for _, bits := range []int{0, 32, -1, 33, 63, 64, math.MaxInt, math.MinInt} {
		for range 20 {
			f, st := section(bits, rule), state(rule)
			steps(t, f, st, rule(), 0, api.FixedState{}, false)
			answers, end, n := quant.Run(f, st, []int64{1, 2, 3})
			if !slices.Equal(answers, []int64{0, 0, 0}) || end != (api.FixedState{}) || n != 0 {
				t.Errorf("P25.4: Run with %d bits: %v, %v, %d", bits, answers, end, n)
			}
		}
	}
}

func TestStepAtTheEnds(t *testing.T) {
	// Five products as great as can be, of all signs: the sum never wraps round.
	signs := func(i int) func() int64 {
		return func() int64 {
			i /= 2
			if i%2 == 0 {
				return low
			}
			return high
		}
	}
	for _, bits := range []int{1, 2, 3, 30, 31} {
		for i := range 1 << 10 {
			rule := signs(i << 1)
			f, st, x := section(bits, rule), state(rule), rule()
			y, next, out := step(f, st, x)
			steps(t, f, st, x, y, next, out)
		}
	}
}

func TestStep(t *testing.T) {
	mix := trial.Mixer(506)
	small := func() int64 { return int64(mix.Below(9) - 4) }
	for round := range 20000 {
		bits := 1 + round%api.MaxBits
		about := func() int64 { return int64(mix.Bits()) >> (62 - bits) } // numbers that are about 1
		any := func() int64 { return number(&mix) }
		rules := []func() int64{any, small, about}
		f, st := section(bits, rules[mix.Below(3)]), state(rules[mix.Below(3)])
		x := rules[mix.Below(3)]()
		y, next, out := step(f, st, x)
		steps(t, f, st, x, y, next, out)
	}
}

func TestStepRoundsTiesToTheEvenOne(t *testing.T) {
	for bits := 1; bits <= api.MaxBits; bits++ {
		for whole := int64(-5); whole <= 5; whole++ {
			for _, by := range []int64{-1, 0, 1} {
				// One factor tells the sum: the others are ones.
				rest := int64(1)<<(bits-1) + by
				f := api.Fixed{Bits: bits, B0: kept(int64(1) << bits), B1: 1, A1: 1}
				if f.B0 == high { // 2^31 is not to be had
					f.B2 = 1
				}
				st := api.FixedState{X1: rest, X2: whole}
				y, next, out := step(f, st, whole)
				steps(t, f, st, whole, y, next, out)
				want := whole
				if by > 0 || by == 0 && whole%2 != 0 {
					want++
				}
				if y != want {
					t.Errorf("P25.3: %d and %d of 2^%d: %d, want %d", whole, rest, bits, y, want)
				}
			}
		}
	}
}

func TestNoughtsAnswerNought(t *testing.T) {
	mix := trial.Mixer(507)
	for range 1000 {
		rule := func() int64 { return number(&mix) }
		if y, _, out := quant.Step(api.Fixed{Bits: 1 + mix.Below(31)}, state(rule), rule()); y != 0 || out {
			t.Errorf("P25.6: a section of noughts answers %d, %v", y, out)
		}
	}
}

func TestRun(t *testing.T) {
	mix := trial.Mixer(508)
	for round := range 500 {
		bits := 1 + round%api.MaxBits
		rule := func() int64 { return number(&mix) }
		if round%2 == 0 {
			rule = func() int64 { return int64(mix.Bits()) >> (62 - bits) }
		}
		f, st := section(bits, rule), state(rule)
		list := make([]int64, mix.Below(12))
		for i := range list {
			list[i] = rule()
		}
		var want []int64
		end, count := st, 0
		for _, x := range list {
			var y int64
			var out bool
			if y, end, out = step(f, end, x); out {
				count++
			}
			want = append(want, y)
		}
		got, last, n := quant.Run(f, st, list)
		if !slices.Equal(got, want) || last != end || n != count {
			t.Errorf("P25.4: Run(%v, %v, %v) = %v, %v, %d, want %v, %v, %d", f, st, list, got, last, n, want, end, count)
		}
		for cut := range len(list) + 1 {
			a, middle, i := quant.Run(f, st, list[:cut])
			b, last, j := quant.Run(f, middle, list[cut:])
			if !slices.Equal(slices.Concat(a, b), want) || last != end || i+j != count {
				t.Errorf("P25.4: Run cut at %d", cut)
			}
		}
	}
}

func TestRunOfNothing(t *testing.T) {
	mix := trial.Mixer(509)
	for _, bits := range []int{-1, 0, 1, 31, 32} {
		for _, none := range [][]int64{nil, {}} {
			st := state(func() int64 { return number(&mix) })
			if got, end, n := quant.Run(api.Fixed{Bits: bits, B0: 1}, st, none); len(got) != 0 || end != st || n != 0 {
				t.Errorf("P25.4: Run of no samples with %d bits: %v, %v, %d, want the state %v", bits, got, end, n, st)
			}
		}
	}
}

func TestRunMemory(t *testing.T) {
	f := api.Fixed{Bits: 1, B0: 1, A1: -1}
	roomy := []int64{10, 20, 30, 77, 77}
	first, _, _ := quant.Run(f, api.FixedState{}, roomy[:3])
	if !slices.Equal(roomy, []int64{10, 20, 30, 77, 77}) {
		t.Errorf("Memory: Run changed what it was given: %v", roomy)
	}
	want := slices.Clone(first)
	clear(roomy)
	second, _, _ := quant.Run(f, api.FixedState{}, []int64{10, 20, 30})
	clear(second[:cap(second)])
	if !slices.Equal(first, want) {
		t.Error("Memory: an answer of Run shares memory")
	}
}
