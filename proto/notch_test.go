package proto_test

import (
	"math"
	"slices"
	"testing"

	"quaver/api"
	"quaver/proto"
	"quaver/trial"
	"quaver/zpk"
)

// notched is P24.4, each product worked out with true numbers and rounded then.
func notched(u complex128, r float64) api.Zpk {
	x, y := real(u), imag(u)
	a, b := trial.Times(r, x), trial.Times(r, y)
	return api.Zpk{Zeros: list(u, complex(x, trial.Turned(y))), Poles: list(complex(a, b), complex(a, trial.Turned(b))), Gain: 1}
}

func TestNotch(t *testing.T) {
	got, e := proto.Notch(1i, 0.5)
	is(t, "P24.4: Notch(i, 0.5)", got, e, api.Zpk{Zeros: list(1i, complex(0, -1)), Poles: list(0.5i, complex(0, -0.5)), Gain: 1})
	got, e = proto.Notch(complex(minus, -3), 0.25)
	is(t, "P24.4: Notch(-3i, 0.25)", got, e, api.Zpk{Zeros: list(complex(minus, -3), complex(minus, 3)), Poles: list(complex(minus, -0.75), complex(minus, 0.75)), Gain: 1})
	mix := trial.Mixer(263)
	points := slices.Concat(mix.FiniteNumbers(200), mix.Numbers(50, mix.Middle), trial.Signs(1, least), trial.Signs(least, least), trial.Signs(0, least), trial.Signs(greatest, greatest), trial.Signs(0, greatest))
	for _, u := range points {
		if imag(u) == 0 {
			continue
		}
		for _, r := range []float64{0.5, 0.1, 1 - 0x1p-53, least, trial.LeastNormal, 0.75} {
			got, e := proto.Notch(u, r)
			is(t, "P24.4: Notch", got, e, notched(u, r))
			if f := zpk.Check(got); f != api.OK {
				t.Errorf("P24.4: Notch(%v, %v) is no filter: %d", u, r, f)
			}
		}
	}
}

func TestNotchErrors(t *testing.T) {
	rights := []float64{0.5, least, 1 - 0x1p-53}
	wrongs := []float64{0, minus, 1, 1 + 0x1p-52, 2, greatest, infinity, -infinity, nan, -0.5, -least, -1}
	plain := list(1i, complex(3, -4), complex(0, least))
	reals := list(0, 1, -2, complex(2, minus), complex(greatest, 0), complex(minus, minus), complex(infinity, 0), complex(nan, 0), complex(-infinity, minus))
	endless := slices.DeleteFunc(append(trial.Endless(), complex(0, nan), complex(2, -infinity)), func(a complex128) bool { return imag(a) == 0 })
	endless = append(endless, complex(infinity, 1), complex(nan, least), complex(-infinity, math.NaN()))
	for _, r := range wrongs {
		for _, u := range slices.Concat(plain, reals, endless) {
			got, e := proto.Notch(u, r)
			fails(t, "Errors: Notch of another radius", got, e, api.ErrArg)
		}
	}
	for _, r := range rights {
		for _, u := range reals {
			got, e := proto.Notch(u, r)
			fails(t, "Errors: Notch of a real number", got, e, api.ErrArg)
		}
		for _, u := range endless {
			got, e := proto.Notch(u, r)
			fails(t, "Errors: Notch of a number that is not finite", got, e, api.ErrNaN)
		}
		for _, u := range plain {
			if _, e := proto.Notch(u, r); e != api.OK {
				t.Errorf("P24.4: Notch(%v, %v): %d", u, r, e)
			}
		}
	}
}
