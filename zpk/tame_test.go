package zpk_test

import (
	"math"
	"math/big"
	"testing"

	"quaver/api"
	"quaver/trial"
	"quaver/zpk"
)

func TestTameExamples(t *testing.T) {
	next := math.Nextafter(1, 2)
	edge := complex(0.6, 0.8) // outside, as it is rounded
	for _, c := range []struct {
		poles, want []complex128
		stable      bool
	}{
		{list(2, complex(0, 0.5)), list(0.5, complex(0, 0.5)), false},
		{list(1), list(1), false}, {nil, nil, true}, {list(0.5, complex(0, -0.5)), list(0.5, complex(0, -0.5)), true},
		// On the circle, with noughts of both signs: all stays.
		{list(1, complex(-1, minus), complex(minus, 1), complex(0, -1)), list(1, complex(-1, minus), complex(minus, 1), complex(0, -1)), false},
		{trial.Noughts(), trial.Noughts(), true}, {list(complex(minus, 0.5), complex(0.25, minus)), list(complex(minus, 0.5), complex(0.25, minus)), true},
		// Outside a nought of either sign becomes +0, as the true one is 0.
		{list(complex(2, minus), complex(minus, -4), complex(minus, 2)), list(0.5, complex(0, -0.25), complex(0, 0.5)), false},
		{list(5, 4, 5, 1, 2, 2), list(0.2, 0.25, 0.2, 1, 0.5, 0.5), false},
		{list(complex(3, 4), complex(-3, 4), complex(3, -4)), list(complex(0.12, 0.16), complex(-0.12, 0.16), complex(0.12, -0.16)), false},
		// Just inside, and just outside.
		{list(complex(1-0x1p-53, 0)), list(complex(1-0x1p-53, 0)), true}, {list(complex(next, 0)), list(complex(1-0x1p-52, 0)), false}, {list(complex(1, trial.Least)), list(complex(1, trial.Least)), false}, {list(complex(1-0x1p-53, trial.Least)), list(complex(1-0x1p-53, trial.Least)), true}, {list(complex(1-0x1p-53, 0x1p-26)), list(complex(1-0x1p-53, 0x1p-26)), false},
		{list(edge, complex(0.6, 0.7999)), list(complex(0.6, 0.8), complex(0.6, 0.7999)), false},
		// Far outside: to subnormal numbers, to noughts of their signs.
		{list(0x1p1023, -trial.Greatest), list(0x1p-1023, -0x1p-1024), false}, {list(complex(trial.Greatest, -trial.Greatest)), list(complex(0x1p-1025, -0x1p-1025)), false}, {list(complex(0x1p1000, -0x1p-1000)), list(complex(0x1p-1000, minus)), false}, {list(complex(-trial.Least, trial.Greatest)), list(complex(minus, 0x1p-1024)), false},
	} {
		f := api.Zpk{Zeros: list(complex(7, minus), 0.5, complex(minus, minus)), Poles: c.poles, Gain: complex(minus, 3)}
		want := clone(f)
		want.Poles = c.want
		if g, e := zpk.Tame(f); e != api.OK || !same(g, want) {
			t.Errorf("P13.6: Tame of the poles %x: %x, %d, want %x", c.poles, g.Poles, e, c.want)
		}
		if yes, e := zpk.Stable(f); yes != c.stable || e != api.OK {
			t.Errorf("P13.6: Stable of the poles %x: %v, %d", c.poles, yes, e)
		}
	}
}

func TestTameAndStable(t *testing.T) {
	mix := trial.Mixer(5)
	one := trial.Fraction(1, 0, 1)
	beside := func() float64 {
		return float64(int(mix.Below(9))-4)*0x1p-53 + []float64{0, 1, -1, 0.6, 0.8}[mix.Below(5)]
	}
	stables := 0
	for round := range 600 {
		f := api.Zpk{Zeros: mix.FiniteNumbers(mix.Below(25)), Poles: mix.FiniteNumbers(mix.Below(25)), Gain: mix.FiniteNumbers(1)[0]}
		switch round % 3 {
		case 1:
			f.Poles = mix.Numbers(mix.Below(9), beside)
		case 2:
			f.Poles = mix.Numbers(mix.Below(25), func() float64 { return mix.Middle() * 0x1p-10 })
		}
		want, stable := clone(f), true
		for i, p := range exactly(f.Poles) {
			where := p.Norm().Cmp(big.NewRat(1, 1))
			if where > 0 {
				want.Poles[i] = one.Quo(p.Conj()).Near()
			}
			stable = stable && where < 0
		}
		g, e := zpk.Tame(f)
		if e != api.OK || !same(g, want) {
			t.Fatalf("P13.6: Tame(%x) = %x, %d", f, g, e)
		}
		if e := zpk.Check(g); e != api.OK {
			t.Fatalf("P13.7: Check(Tame(%x)) = %d", f, e)
		}
		if yes, e := zpk.Stable(f); yes != stable || e != api.OK {
			t.Fatalf("P13.6: Stable(%x) = %v, %d", f, yes, e)
		}
		if stable {
			stables++
		}
	}
	if stables < 50 || stables > 550 {
		t.Errorf("%d of 600 filters are stable", stables)
	}
}

func TestZerosTellNothingOfStable(t *testing.T) {
	if yes, e := zpk.Stable(api.Zpk{Zeros: list(1, 5, complex(0, -1))}); !yes || e != api.OK {
		t.Errorf("P13.6: Stable without poles: %v, %d", yes, e)
	}
	for place := range api.MaxRoots {
		poles := make([]complex128, api.MaxRoots)
		poles[place] = complex(0, 1)
		if yes, e := zpk.Stable(api.Zpk{Poles: poles, Gain: 1}); yes || e != api.OK {
			t.Errorf("P13.6: Stable with the pole %d on the circle: %v, %d", place, yes, e)
		}
	}
}
