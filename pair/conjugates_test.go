package pair_test

import (
	"slices"
	"testing"

	"quaver/api"
	"quaver/pair"
	"quaver/trial"
)

func split(t *testing.T, numbers, above, reals []complex128, want api.Errno) {
	t.Helper()
	a, b, e := pair.Conjugates(numbers)
	if e != want || !trial.AlikeNumbers(a, above) || !trial.AlikeNumbers(b, reals) {
		t.Errorf("P14.2: Conjugates(%v) = %v, %v, %d, want %v, %v, %d", numbers, a, b, e, above, reals, want)
	}
}

func TestConjugatesExamples(t *testing.T) {
	i := complex(0, 1)
	split(t, list(i, 2, -i, 3), list(i), list(2, 3), api.OK)
	split(t, list(i, i, -i), nil, nil, api.ErrPair)
	split(t, list(complex(minus, 1), complex(0, -1)), list(complex(minus, 1)), nil, api.OK)
	split(t, nil, nil, nil, api.OK)
	split(t, list(), nil, nil, api.OK)
}

func TestConjugatesOfReals(t *testing.T) {
	split(t, list(3, -1, 2, 3), nil, list(3, -1, 2, 3), api.OK)
	// Noughts with their signs; a real number needs no other, whatever the sign of its imaginary part.
	split(t, trial.Noughts(), nil, trial.Noughts(), api.OK)
	split(t, list(complex(1, minus)), nil, list(complex(1, minus)), api.OK)
	split(t, list(complex(1, minus), complex(1, 0), complex(1, minus)), nil, list(complex(1, minus), complex(1, 0), complex(1, minus)), api.OK)
	split(t, trial.Signs(trial.Greatest, 0), nil, trial.Signs(trial.Greatest, 0), api.OK)
}

func TestConjugatesOfOthers(t *testing.T) {
	z, w, tiny := complex(1, 2), complex(1, -2), trial.Least
	for _, numbers := range [][]complex128{
		list(z), list(w), list(z, z), list(z, w, w), list(w, z, w), list(z, 5, complex(-1, -2)), list(z, complex(2, -1)), list(z, w, complex(3, 1)), list(complex(0, tiny)), list(complex(1, tiny), complex(1, -2*tiny)), list(complex(1, 1), complex(1+0x1p-52, -1)), list(1, 2, complex(0, -tiny), 3),
		// Each number as often as another one, but not as its own conjugate.
		list(z, complex(3, 4)), list(z, complex(-1, 2)), list(z, -z), list(z, w, z, complex(3, -2)), list(z, z, w, w, z, complex(1, 3), w, complex(1, -3), complex(1, -3)),
	} {
		split(t, numbers, nil, nil, api.ErrPair)
	}
	split(t, list(w, z), list(z), nil, api.OK)
	split(t, list(w, w, 3, z, z), list(z, z), list(3), api.OK)
	split(t, list(z, 1, complex(3, 4), w, complex(3, -4), -1, z, w), list(z, complex(3, 4), z), list(1, -1), api.OK)
	split(t, list(complex(0, tiny), complex(0, -tiny)), list(complex(0, tiny)), nil, api.OK)
	split(t, list(complex(tiny, -trial.Greatest), complex(tiny, trial.Greatest)), list(complex(tiny, trial.Greatest)), nil, api.OK)
	// Noughts of both signs for real parts, several times: each stands as it stood.
	split(t, list(complex(0, 2), complex(minus, 2), complex(minus, -2), complex(minus, -2)), list(complex(0, 2), complex(minus, 2)), nil, api.OK)
	split(t, list(complex(0, 2), complex(minus, 2), complex(minus, -2)), nil, nil, api.ErrPair)
	split(t, list(complex(0, -2), complex(minus, 2), complex(minus, 0)), list(complex(minus, 2)), list(complex(minus, 0)), api.OK)
}

// often is how often a number == z stands in a list.
func often(numbers []complex128, z complex128) int {
	n := 0
	for _, a := range numbers {
		if real(a) == real(z) && imag(a) == imag(z) {
			n++
		}
	}
	return n
}

func TestConjugates(t *testing.T) {
	mix := trial.Mixer(144)
	whole := 0
	for range 4000 {
		numbers := mix.Few(mix.Below(9))
		if mix.Below(2) == 0 {
			for _, a := range numbers {
				numbers = slices.Insert(numbers, mix.Below(len(numbers)+1), complex(real(a), trial.Turned(imag(a))))
			}
		}
		want := api.OK
		var above, reals []complex128
		for _, a := range numbers {
			switch {
			case imag(a) == 0:
				reals = append(reals, a)
			case imag(a) > 0:
				above = append(above, a)
			}
			if imag(a) != 0 && often(numbers, a) != often(numbers, complex(real(a), -imag(a))) {
				want = api.ErrPair
			}
		}
		if want != api.OK {
			above, reals = nil, nil
		} else if len(above) > 0 {
			whole++
		}
		split(t, numbers, above, reals, want)
	}
	if whole < 500 {
		t.Errorf("only %d lists have conjugates", whole)
	}
}

func TestConjugatesOfMany(t *testing.T) {
	mix := trial.Mixer(145)
	var numbers, above []complex128
	for _, a := range mix.Numbers(100000, mix.Middle) {
		numbers = append(numbers, a, complex(real(a), -imag(a)))
		above = append(above, complex(real(a), max(imag(a), -imag(a))))
	}
	got, reals, e := pair.Conjugates(numbers)
	if e != api.OK || len(reals) != 0 || !trial.AlikeNumbers(got, above) {
		t.Errorf("P14.2: Conjugates of many: %d, %d, %d", len(got), len(reals), e)
	}
	split(t, numbers[1:], nil, nil, api.ErrPair)
}

func TestConjugatesThatAreNotFinite(t *testing.T) {
	for _, bad := range trial.Endless() {
		conj := complex(real(bad), trial.Turned(imag(bad)))
		for _, numbers := range [][]complex128{list(bad), list(bad, conj), list(1, bad), list(bad, 1), list(complex(0, 1), bad), list(bad, complex(0, 1)), list(complex(0, 1), complex(0, -1), bad)} {
			split(t, numbers, nil, nil, api.ErrNaN)
		}
	}
	split(t, list(complex(0, 1), complex(infinity, 0)), nil, nil, api.ErrNaN)
}
