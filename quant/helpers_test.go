package quant_test

import (
	"math"
	"math/big"

	"quaver/api"
	"quaver/quant"
	"quaver/trial"
)

const (
	low  = -1 << 31
	high = 1<<31 - 1
)

var (
	minus    = math.Copysign(0, -1)
	infinity = math.Inf(1)
	nan      = math.NaN()
)

// nearest is the whole number nearest to x, ties to the even one.
func nearest(x *big.Rat) *big.Int {
	double := new(big.Rat).Mul(x, big.NewRat(2, 1))
	n := new(big.Int).Div(double.Num(), double.Denom()) // how many halves, downwards
	n.Add(n, big.NewInt(1))
	odd := n.Bit(0) == 1
	n.Rsh(n, 1)
	// From n - 1/2 up to n + 1/2, which is not reached: but for a tie n is the nearest.
	if double.IsInt() && !odd && n.Bit(0) == 1 {
		n.Sub(n, big.NewInt(1))
	}
	return n
}

// within is n kept within 32 bits, and whether that had to be.
func within(n *big.Int) (int64, bool) {
	switch {
	case n.Cmp(big.NewInt(low)) < 0:
		return low, true
	case n.Cmp(big.NewInt(high)) > 0:
		return high, true
	}
	return n.Int64(), false
}

func kept(n int64) int64 {
	n, _ = within(big.NewInt(n))
	return n
}

// fixed is P25.1 by math/big, of a finite x.
func fixed(x float64, bits int) (int64, bool) {
	return within(nearest(new(big.Rat).Mul(trial.True(x), trial.Up(bits))))
}

// step is P25.3 by math/big.
func step(f api.Fixed, st api.FixedState, x int64) (int64, api.FixedState, bool) {
	s := new(big.Int)
	add := func(sign, a, b int64) {
		p := new(big.Int).Mul(big.NewInt(kept(a)), big.NewInt(kept(b)))
		s.Add(s, p.Mul(p, big.NewInt(sign)))
	}
	add(1, f.B0, x)
	add(1, f.B1, st.X1)
	add(1, f.B2, st.X2)
	add(-1, f.A1, st.Y1)
	add(-1, f.A2, st.Y2)
	y, out := within(nearest(new(big.Rat).Mul(new(big.Rat).SetInt(s), trial.Up(-f.Bits))))
	return y, api.FixedState{X1: kept(x), X2: kept(st.X1), Y1: y, Y2: kept(st.Y1)}, out
}

// cycle is P25.5 by a list of all states.
func cycle(f api.Fixed, st api.FixedState, steps int) (int, int, api.Errno) {
	st = api.FixedState{X1: kept(st.X1), X2: kept(st.X2), Y1: kept(st.Y1), Y2: kept(st.Y2)}
	first := map[api.FixedState]int{st: 0}
	for i := 1; i <= steps; i++ {
		_, st, _ = step(f, st, 0)
		if a, again := first[st]; again {
			return a, i - a, api.OK
		}
		first[st] = i
	}
	return 0, 0, api.ErrNone
}

// ends are whole numbers at the ends of 32 bits and of 64, beside them, and small ones.
func ends() []int64 {
	return []int64{0, 1, -1, 2, 3, -3, high, high - 1, high + 1, low, low + 1, low - 1, 1 << 40, -1 << 40, math.MaxInt64, math.MinInt64}
}

// number is a whole number of any size, or one of the ends.
func number(m *trial.Mixer) int64 {
	switch m.Below(3) {
	case 0:
		return ends()[m.Below(len(ends()))]
	case 1:
		return int64(m.Bits()) >> m.Below(64)
	}
	return int64(int32(m.Bits()))
}

// section is one of so many bits, whose coefficients the rule tells.
func section(bits int, rule func() int64) api.Fixed {
	return api.Fixed{Bits: bits, B0: rule(), B1: rule(), B2: rule(), A1: rule(), A2: rule()}
}

func state(rule func() int64) api.FixedState {
	return api.FixedState{X1: rule(), X2: rule(), Y1: rule(), Y2: rule()}
}

// teller is what a test tells its faults.
type teller interface {
	Helper()
	Errorf(format string, args ...any)
}

// steps holds Step against what is wanted.
func steps(t teller, f api.Fixed, st api.FixedState, x, y int64, next api.FixedState, out bool) {
	t.Helper()
	if a, b, c := quant.Step(f, st, x); a != y || b != next || c != out {
		t.Errorf("P25.3: Step(%v, %v, %d) = %d, %v, %v, want %d, %v, %v", f, st, x, a, b, c, y, next, out)
	}
}
