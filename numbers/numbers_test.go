package numbers_test

import (
	"testing"

	"quaver/api"
	"quaver/numbers"
	"quaver/trial"
)

func TestFinite(t *testing.T) {
	if !numbers.Finite() || !numbers.Finite(trial.Signs(trial.Greatest, trial.Least)...) {
		t.Error("finite numbers")
	}
	for _, bad := range trial.Endless() {
		if numbers.Finite(bad) || numbers.Finite(1, bad) || numbers.Finite(bad, 1) {
			t.Errorf("%v is not finite", bad)
		}
	}
}

func TestCoefficients(t *testing.T) {
	s := api.Section{B0: 1, B1: 2, B2: 3, A1: 4, A2: 5}
	if got := numbers.Coefficients(s); !trial.AlikeNumbers(got, []complex128{1, 2, 3, 4, 5}) {
		t.Errorf("the coefficients of %v are %v", s, got)
	}
}

func TestPaired(t *testing.T) {
	z, w := complex(1, 2), complex(1, -2)
	for _, c := range []struct {
		list []complex128
		want bool
	}{
		{nil, true}, {trial.Noughts(), true}, {[]complex128{5, complex(5, trial.Turned(0)), 6}, true}, {[]complex128{z, w}, true}, {[]complex128{w, 3, z, z, w}, true}, {[]complex128{complex(trial.Turned(0), 1), complex(0, -1)}, true},
		{[]complex128{z}, false}, {[]complex128{w}, false}, {[]complex128{z, w, w}, false}, {[]complex128{z, z, w}, false}, {[]complex128{z, -z}, false}, {[]complex128{1, 2, z}, false},
	} {
		if got := numbers.Paired(c.list); got != c.want {
			t.Errorf("Paired(%v) = %v", c.list, got)
		}
	}
}

func TestExacts(t *testing.T) {
	mix := trial.Mixer(11)
	list := append(mix.FiniteNumbers(200), trial.Noughts()...)
	all := numbers.Exacts(list)
	if len(all) != len(list) {
		t.Fatalf("%d of %d numbers", len(all), len(list))
	}
	for i, a := range list {
		if want := trial.Exactly(a).Gauss(); !trial.AlikeGauss(all[i], want) || !trial.AlikeGauss(numbers.Exact(a), want) {
			t.Errorf("%x: %v, want %v", a, all[i], want)
		}
	}
}
