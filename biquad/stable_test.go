package biquad_test

import (
	"math"
	"slices"
	"testing"

	"quaver/api"
	"quaver/biquad"
	"quaver/refl"
	"quaver/schur"
	"quaver/sturm"
	"quaver/trial"
	"quaver/zpk"
)

// line is the polynomial of these coefficients, the one of z^0 first.
func line(numbers ...complex128) api.Poly {
	var all trial.Line
	for _, a := range numbers {
		all = append(all, trial.Exactly(a))
	}
	return all.Poly()
}

func polys(t *testing.T, s api.Section) {
	t.Helper()
	num, den, e := biquad.Polys(s)
	if e != api.OK || !trial.AlikePoly(num, line(s.B2, s.B1, s.B0)) || !trial.AlikePoly(den, line(s.A2, s.A1, 1)) {
		t.Errorf("P15.3: Polys(%x) = %v, %v, %d", s, num, den, e)
	}
}

func TestPolys(t *testing.T) {
	for _, c := range []struct {
		s        api.Section
		num, den api.Poly
	}{
		{api.Section{}, nil, trial.Reals(0, 0, 1)},
		{api.Section{B0: 1, B1: 2, B2: 3, A1: 4, A2: 5}, trial.Reals(3, 2, 1), trial.Reals(5, 4, 1)},
		{api.Section{B1: 2, B2: 3, A2: 5}, trial.Reals(3, 2), trial.Reals(5, 0, 1)},
		{api.Section{B2: 3, A1: 4}, trial.Reals(3), trial.Reals(0, 4, 1)},
		{api.Section{B0: 7}, trial.Reals(0, 0, 7), trial.Reals(0, 0, 1)},
		{api.Section{B0: complex(0, -1), A2: complex(1, 2)}, api.Poly{trial.Whole(0, 0), trial.Whole(0, 0), trial.Whole(0, -1)}, api.Poly{trial.Whole(1, 2), trial.Whole(0, 0), trial.Whole(1, 0)}},
	} {
		num, den, e := biquad.Polys(c.s)
		if e != api.OK || !trial.AlikePoly(num, c.num) || !trial.AlikePoly(den, c.den) {
			t.Errorf("P15.3: Polys(%v) = %v, %v, %d, want %v, %v", c.s, num, den, e, c.num, c.den)
		}
	}
	for _, nought := range trial.Noughts() {
		polys(t, trial.Section(slices.Repeat(list(nought), 5)))
		polys(t, api.Section{B0: nought, B1: 1, A1: nought, A2: 1})
	}
	mix := trial.Mixer(153)
	for range 500 {
		polys(t, trial.Section(mix.FiniteNumbers(5)))
		polys(t, trial.Section(mix.Few(5)))
	}
}

// lies holds Stable of these two coefficients against what is wanted, whatever the numerator is.
func lies(t *testing.T, a1, a2 complex128, want bool) {
	t.Helper()
	for _, top := range []api.Section{{}, {B0: 1}, {B0: 1, B1: -5, B2: trial.Greatest}} {
		top.A1, top.A2 = a1, a2
		if got := told(t, top); got != want {
			t.Errorf("P15.4: Stable(%x) = %v", top, got)
		}
	}
}

func TestStable(t *testing.T) {
	most, tiny, next, last := complex(trial.Greatest, 0), complex(trial.Least, 0), complex(1+0x1p-52, 0), complex(1-0x1p-53, 0)
	for _, c := range []struct {
		a1, a2 complex128
		want   bool
	}{
		{0, 0, true}, {-1, 0.5, true}, {-1.2, 1, false}, {complex(minus, minus), complex(minus, 0), true},
		// One root, beside 0: on the circle, just inside, just outside.
		{1, 0, false}, {-1, 0, false}, {complex(0, 1), 0, false}, {last, 0, true}, {-next, 0, false}, {complex(0, -real(last)), 0, true}, {complex(0.6, 0.8), 0, false}, {complex(0.6, math.Nextafter(0.8, 0)), 0, true}, {complex(1, trial.Least), 0, false}, {complex(real(last), trial.Least), 0, true},
		// Two of one size.
		{0, 1, false}, {0, -1, false}, {0, complex(0, 1), false}, {0, last, true}, {0, next, false}, {0, -last, true}, {0, complex(0.6, 0.8), false}, {0, complex(trial.Least, real(last)), true},
		// One on the circle, the other inside or outside; twice the same one.
		{-1.5, 0.5, false}, {1.5, 0.5, false}, {-0.5, -0.5, false}, {-3, 2, false}, {complex(-0.5, -1), complex(0, 0.5), false}, {-2, 1, false}, {2, 1, false}, {complex(0, 2), -1, false}, {complex(0, -2), -1, false}, {complex(-1, -1), complex(0, 1), false},
		// 1 and 1/2, but for the last bit; 1/2 and 1/2; 1/2 and 2.
		{complex(math.Nextafter(-1.5, 0), 0), 0.5, true}, {complex(math.Nextafter(-1.5, -2), 0), 0.5, false}, {-1.5, complex(math.Nextafter(0.5, 1), 0), true}, {-1.5, complex(math.Nextafter(0.5, 0), 0), false}, {-1, 0.25, true}, {-2.5, 1, false},
		{-1.5, complex(0.5, trial.Least), false}, {complex(-1.5, trial.Least), 0.5, false},
		// Both just inside: they are one number, so that the last bit counts twice.
		{-2 + 0x1p-52, 1 - 0x1p-52, false}, {-2 + 0x1p-52, 1 - 0x1p-53, true}, {-2 + 0x1p-52, 1, false}, {-2 + 0x1p-51, 1 - 0x1p-52, true}, {-2, 1 - 0x1p-53, false}, {-2, 1 + 0x1p-52, false},
		// The ends of the format.
		{most, 0, false}, {0, most, false}, {most, most, false}, {tiny, tiny, true}, {tiny, 0, true}, {0, -tiny, true}, {most, tiny, false}, {tiny, last, true}, {tiny, next, false}, {tiny, 1, false}, {tiny, -1, false}, {complex(1-0x1p-53, 0), tiny, true}, {1, -tiny, false}, {1, tiny, true},
	} {
		lies(t, c.a1, c.a2, c.want)
		if by := stable(api.Section{A1: c.a1, A2: c.a2}); by != c.want {
			t.Errorf("the roots of z^2 + %x z + %x: %v by hand", c.a1, c.a2, by)
		}
	}
}

// nearly are sections whose roots lie near the circle, some of them on it, as they are rounded.
func nearly(mix *trial.Mixer) api.Section {
	places := mix.Places(2)
	for i, z := range places {
		if mix.Below(3) > 0 {
			places[i] = trial.Unit(int64(mix.Below(7)-3), int64(1+mix.Below(3)))
			if mix.Below(2) == 0 {
				places[i] = places[i].Stretched(trial.True(1 - math.Ldexp(1, -mix.Below(54)-1)))
			}
		} else if z.Norm().Cmp(trial.Up(1)) > 0 {
			places[i] = z.Mirror()
		}
	}
	s := api.Section{B0: 1, A1: trial.Fraction(0, 0, 1).Sub(places[0]).Sub(places[1]).Near(), A2: places[0].Mul(places[1]).Near()}
	if mix.Below(4) == 0 {
		s.A1 = complex(math.Nextafter(real(s.A1), 0), imag(s.A1))
	}
	return s
}

func TestRightlyTold(t *testing.T) {
	mix := trial.Mixer(154)
	often := map[bool]int{}
	edge := 0
	for i := range 3000 {
		s := nearly(&mix)
		switch i % 10 {
		case 0:
			s = trial.Section(mix.FiniteNumbers(5))
		case 1:
			s = trial.Section(mix.Few(5))
		}
		want := stable(s)
		if told(t, s) != want {
			t.Errorf("P15.4: Stable(%x), want %v", s, want)
		}
		often[want]++
		den := line(s.A2, s.A1, 1)
		in, on, _, e := schur.Count(den)
		tells, f := refl.Tells(den)
		if e != api.OK || f != api.OK || (in == 2) != want || tells != want {
			t.Errorf("P5: of %x: %d inside, %v by reflection numbers, want %v", s, in, tells, want)
		}
		if on > 0 {
			edge++
		}
		// The circle laid on the line: what lies inside lies above.
		if i < 300 {
			laid, e := sturm.Line(den)
			above, _, _, f := sturm.Upper(laid)
			if e != api.OK || f != api.OK || (above == 2) != want {
				t.Errorf("P5: of %x: %d above the line, %d, %d, want %v", s, above, e, f, want)
			}
		}
	}
	if often[true] < 500 || often[false] < 500 || edge < 100 {
		t.Errorf("%d are stable, %d are not, %d have roots on the circle", often[true], often[false], edge)
	}
}

// moved is how the roots of the section of two poles inside lie, as it is rounded.
func moved(t *testing.T, p, q complex128) (on, out int) {
	t.Helper()
	s, e := biquad.Of(group(nil, list(p, q)))
	if e != api.OK {
		t.Fatalf("P15.1: Of the poles %x, %x: %d", p, q, e)
	}
	_, on, out, _ = schur.Count(line(s.A2, s.A1, 1))
	if want := on+out == 0; told(t, s) != want || stable(s) != want {
		t.Errorf("P15.6: Stable(%x), want %v", s, want)
	}
	return on, out
}

// P15.6: poles inside, and sections that are not stable.
func TestRoundingMovesRoots(t *testing.T) {
	// Twice 1 - 2^-53: the product is rounded down to 1 - 2^-52, and 1 is a root.
	if on, out := moved(t, 1-0x1p-53, 1-0x1p-53); on != 1 || out != 0 {
		t.Errorf("P15.6: %d on the circle, %d outside: the root is moved onto it", on, out)
	}
	// The sum is a tie that goes up, to 2 - 2^-51, the product is rounded down to 1 - 5 * 2^-53: below nought at 1.
	if on, out := moved(t, 1-0x1p-52, 1-0x1.8p-52); on != 0 || out != 1 {
		t.Errorf("P15.6: %d on the circle, %d outside: the root is moved beyond it", on, out)
	}
	mix := trial.Mixer(155)
	often := map[string]int{}
	for range 3000 {
		p := trial.Unit(int64(mix.Below(2001)-1000), int64(1+mix.Below(999))).Near()
		if mix.Below(3) == 0 {
			p = complex(math.Nextafter(real(p), 0), imag(p))
		}
		q := complex(real(p), -imag(p))
		if mix.Below(2) == 0 {
			p, q = complex(1-math.Ldexp(float64(1+mix.Below(20)), -53), 0), complex(1-math.Ldexp(float64(1+mix.Below(20)), -53), 0)
		}
		if ok, _ := zpk.Stable(api.Zpk{Poles: list(p, q), Gain: 1}); !ok {
			continue
		}
		on, out := moved(t, p, q)
		switch {
		case out > 0:
			often["beyond"]++
		case on > 0:
			often["onto"]++
		default:
			often["inside"]++
		}
	}
	if often["inside"] < 100 || often["onto"] < 100 || often["beyond"] < 100 {
		t.Errorf("how roots are moved: %v", often)
	}
}

func TestSectionsThatAreNotFinite(t *testing.T) {
	for _, bad := range trial.Endless() {
		for place := range 5 {
			numbers := list(1, 2, 3, 0.5, 0.25)
			numbers[place] = bad
			s := trial.Section(numbers)
			if num, den, e := biquad.Polys(s); e != api.ErrNaN || len(num) != 0 || len(den) != 0 {
				t.Errorf("Errors: Polys(%v) = %v, %v, %d, want ErrNaN", s, num, den, e)
			}
			if yes, e := biquad.Stable(s); e != api.ErrNaN || yes {
				t.Errorf("Errors: Stable(%v) = %v, %d, want ErrNaN", s, yes, e)
			}
		}
	}
}
