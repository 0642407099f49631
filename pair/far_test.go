package pair_test

import (
	"math"
	"slices"
	"testing"

	"quaver/api"
	"quaver/pair"
	"quaver/trial"
)

func far(t *testing.T, want int, numbers ...complex128) {
	t.Helper()
	if i, e := pair.Far(numbers); i != want || e != api.OK {
		t.Errorf("P14.1: Far(%x) = %d, %d, want %d", numbers, i, e, want)
	}
}

func near(t *testing.T, want int, z complex128, numbers ...complex128) {
	t.Helper()
	if i, e := pair.Close(numbers, z); i != want || e != api.OK {
		t.Errorf("P14.1: Close(%x, %x) = %d, %d, want %d", numbers, z, i, e, want)
	}
}

func TestFar(t *testing.T) {
	far(t, 1, 1, -2, complex(0, 2))
	far(t, 0, 1, 1)
	far(t, 0, 7)
	far(t, 2, 0, 1, complex(3, -4), complex(0, 4.5))
	far(t, 1, 3, complex(0, 3.5), -3)
	// The least of those that lie equally far, wherever it stands.
	far(t, 0, -5, complex(3, 4), 5)
	far(t, 2, complex(3, 4), 5, complex(-4, 3), complex(-3, -4))
	far(t, 1, complex(-4, 3), complex(-4, -3), complex(-3, -4))
	far(t, 3, 5, 5, complex(4, 3), complex(3, -4), complex(3, 4), complex(3, -4))
	far(t, 2, 3, complex(0, 1e200), complex(0, -1e200))
}

func TestClose(t *testing.T) {
	near(t, 0, 2, 1, 3)
	near(t, 1, 2, 3, 1)
	near(t, 1, 2.5, 1, 3)
	near(t, 0, 100, complex(-1, 1))
	near(t, 2, complex(1, 1), 0, 2, complex(1, 2), complex(2, 1))
	near(t, 1, complex(1, 1), complex(6, 1), complex(-3, -2), complex(4, 5))
	near(t, 2, complex(0, -0.9), -1.5, 1, -1, -1)
	near(t, 1, 2, 1, 2, 2, 3)
	near(t, 3, complex(5, 5), 0, 4, 9, complex(5, 4), complex(5, 6))
}

func TestNoughtsInOrder(t *testing.T) {
	// Of noughts alone the one with both signs is the least, then that with a minus in its real part.
	far(t, 3, trial.Noughts()...)
	near(t, 3, 0, trial.Noughts()...)
	near(t, 3, complex(3, 4), trial.Noughts()...)
	far(t, 1, 0, complex(minus, 0), complex(0, minus))
	far(t, 1, 0, complex(0, minus), 0)
	near(t, 2, complex(minus, 1), complex(0, 0), complex(0, minus), complex(minus, 0))
	// Of several that are one by the order, the first.
	far(t, 1, 0, complex(minus, minus), complex(minus, minus), 0)
	far(t, 2, complex(0, 1), complex(0, 1), complex(minus, 1), complex(minus, 1), complex(0, 1))
	near(t, 2, 5, complex(1, 0), complex(1, 0), complex(1, minus), complex(1, minus))
	// A nought's sign makes no distance.
	near(t, 0, complex(minus, minus), complex(-1, 0), 1)
	near(t, 1, complex(1, minus), complex(1, 0x1p-1074), 1)
}

func TestDistancesBelowTheLastBit(t *testing.T) {
	tiny := trial.Least
	far(t, 1, 1, complex(1, tiny))
	far(t, 0, complex(1, -tiny), 1)
	far(t, 1, -1, complex(1, tiny), 1)
	far(t, 0, complex(0.6, 0.8), 1)
	far(t, 1, complex(1, 0x1p-30), complex(1, math.Nextafter(0x1p-30, 1)))
	far(t, 0, complex(trial.Greatest, tiny), trial.Greatest)
	near(t, 1, 0, complex(1, tiny), 1)
	near(t, 0, 0, 1, complex(-1, tiny))
	// 1 - 2^-60 and 1 + 2^-60 from 1, which are both 1 in floats.
	near(t, 1, 1, -0x1p-60, 0x1p-60)
	near(t, 0, 1, complex(tiny, 0), 0)
	near(t, 0, -1, 0, complex(tiny, 0))
	near(t, 1, complex(0, 1e300), complex(1e-300, 0), complex(1e-300, 1e-300))
	near(t, 1, trial.Greatest, 1, 2)
	near(t, 0, -trial.Greatest, 1, 2)
}

func TestDistancesBeyondAllFloats(t *testing.T) {
	most, less := trial.Greatest, math.Nextafter(trial.Greatest, 0)
	far(t, 1, complex(most, less), complex(most, most))
	far(t, 0, complex(-most, most), complex(most, -most), complex(most, most))
	far(t, 2, complex(most, 0), complex(less, less), complex(less, most), complex(less, 0))
	near(t, 1, complex(-most, 0), complex(most, 0), complex(less, 0))
	near(t, 0, complex(-most, -most), complex(less, most), complex(most, most))
	near(t, 2, complex(most, most), complex(-most, -most), complex(-less, -most), complex(-most, -less))
	near(t, 1, complex(0, -most), complex(most, most), complex(-most, most))
	near(t, 1, 0, 1e200, 1e199)
	far(t, 0, 1e200, 1e199)
}

func TestDistancesBelowTheLeast(t *testing.T) {
	tiny := trial.Least
	far(t, 1, complex(tiny, tiny), complex(2*tiny, 0))
	far(t, 1, complex(2*tiny, 0), complex(2*tiny, tiny), complex(tiny, tiny))
	far(t, 0, complex(-5*tiny, 0), complex(3*tiny, 4*tiny))
	far(t, 1, complex(3*tiny, 4*tiny), complex(3*tiny, -4*tiny))
	near(t, 0, 0, complex(tiny, tiny), complex(2*tiny, 0))
	near(t, 1, 0, complex(tiny, 0), complex(minus, 0))
	near(t, 1, complex(tiny, 0), complex(3*tiny, 0), complex(2*tiny, 0))
	near(t, 1, complex(0, tiny), complex(0, 2*tiny), complex(0, 0), complex(tiny, tiny))
	far(t, 1, 1e-200, 1e-199)
	near(t, 0, 0, 1e-200, 1e-199)
}

// alike are numbers of a size that lie as far from nought as each other, or nearly so.
func alike(size float64) []complex128 {
	var all []complex128
	for _, c := range [][2]float64{{3, 4}, {4, 3}, {5, 0}, {0, 5}, {5, trial.Least}, {0x1p-40, 5}, {0x1p-26, 5}, {3, math.Nextafter(4, 5)}, {math.Nextafter(3, 0), 4}, {math.Nextafter(5, 9), 0}, {0, math.Nextafter(5, 0)}, {5, 0x1p-600}} {
		x, y := c[0]*size, c[1]*size
		all = append(all, trial.Signs(x, y)...)
	}
	return all
}

func TestEverySize(t *testing.T) {
	mix := trial.Mixer(141)
	for e := -1074; e <= 1020; e++ {
		numbers := alike(math.Ldexp(1, e))
		for range 3 {
			var some []complex128
			for range 2 + mix.Below(5) {
				some = append(some, numbers[mix.Below(len(numbers))])
			}
			z := some[mix.Below(len(some))]
			far(t, chosen(some, places(some), 0, true), some...)
			near(t, chosen(some, places(some), 0, false), 0, some...)
			near(t, chosen(some[1:], places(some[1:]), z, false), z, some[1:]...)
		}
	}
}

// ring are so many numbers of a size about z, whose distances to it differ by little, or by nothing but what is rounded.
func ring(mix *trial.Mixer, n int, size float64, z complex128) []complex128 {
	var all []complex128
	for range n {
		a := trial.Unit(int64(mix.Below(401)-200), int64(1+mix.Below(200))).Near()
		wide := size * (1 + math.Ldexp(float64(mix.Below(3)), -mix.Below(60)))
		all = append(all, z+complex(real(a)*wide, imag(a)*wide))
	}
	return all
}

// Rounded steps would tell another one, where distances are near each other, and where their squares are subnormal.
func TestRings(t *testing.T) {
	mix := trial.Mixer(148)
	for range 3000 {
		size := math.Ldexp(mix.Middle(), -560+mix.Below(1100))
		switch mix.Below(4) {
		case 0:
			size = math.Ldexp(mix.Middle(), -537+mix.Below(40))
		case 1:
			size = mix.Middle()
		}
		z := complex(size*mix.Middle(), size*mix.Middle())
		about := ring(&mix, 2+mix.Below(4), size, z)
		near(t, chosen(about, places(about), z, false), z, about...)
		about = ring(&mix, 2+mix.Below(4), size, 0)
		near(t, chosen(about, places(about), 0, false), 0, about...)
		far(t, chosen(about, places(about), 0, true), about...)
	}
}

func TestFarAndClose(t *testing.T) {
	mix := trial.Mixer(142)
	kinds := []func(n int) []complex128{mix.Few, mix.FiniteNumbers, func(n int) []complex128 { return mix.Numbers(n, mix.Middle) }}
	for range 3000 {
		var numbers []complex128
		for range 1 + mix.Below(4) {
			numbers = append(numbers, kinds[mix.Below(len(kinds))](1+mix.Below(4))...)
		}
		for _, z := range slices.Concat(mix.Few(1), mix.FiniteNumbers(1), numbers[:1]) {
			near(t, chosen(numbers, places(numbers), z, false), z, numbers...)
		}
		far(t, chosen(numbers, places(numbers), 0, true), numbers...)
	}
}

func TestLongLists(t *testing.T) {
	mix := trial.Mixer(143)
	numbers := mix.Numbers(200000, mix.Middle)
	numbers[150000], numbers[170000] = complex(1e9, 1), complex(1e9, -1)
	numbers[123456] = complex(1e-9, 1e-9)
	far(t, 170000, numbers...)
	near(t, 123456, 0, numbers...)
}

func TestErrorsOfFarAndClose(t *testing.T) {
	if i, e := pair.Far(nil); i != 0 || e != api.ErrNone {
		t.Errorf("P14.1: Far() = %d, %d, want ErrNone", i, e)
	}
	if i, e := pair.Far(list()); i != 0 || e != api.ErrNone {
		t.Errorf("P14.1: Far of an empty list = %d, %d, want ErrNone", i, e)
	}
	for _, z := range slices.Concat(trial.Noughts(), list(1, complex(trial.Greatest, trial.Least))) {
		for _, none := range [][]complex128{nil, list()} {
			if i, e := pair.Close(none, z); i != 0 || e != api.ErrNone {
				t.Errorf("P14.1: Close((), %v) = %d, %d, want ErrNone", z, i, e)
			}
		}
	}
	for _, bad := range trial.Endless() {
		for _, numbers := range [][]complex128{nil, list(1), list(2, 3)} {
			if i, e := pair.Close(numbers, bad); i != 0 || e != api.ErrNaN {
				t.Errorf("Errors: Close(%v, %v) = %d, %d, want ErrNaN", numbers, bad, i, e)
			}
		}
		for _, numbers := range [][]complex128{list(bad), list(bad, 1), list(1, bad), list(3, 4, bad, 5, 6)} {
			if i, e := pair.Far(numbers); i != 0 || e != api.ErrNaN {
				t.Errorf("Errors: Far(%v) = %d, %d, want ErrNaN", numbers, i, e)
			}
			for _, z := range list(0, 5, bad) {
				if i, e := pair.Close(numbers, z); i != 0 || e != api.ErrNaN {
					t.Errorf("Errors: Close(%v, %v) = %d, %d, want ErrNaN", numbers, z, i, e)
				}
			}
		}
	}
}
