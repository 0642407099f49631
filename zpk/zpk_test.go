package zpk_test

import (
	"slices"
	"testing"

	"quaver/api"
	"quaver/cplx"
	"quaver/trial"
	"quaver/zpk"
)

func TestCanonExamples(t *testing.T) {
	for _, c := range []struct{ f, want api.Zpk }{
		{api.Zpk{Zeros: list(1, 2, 1), Poles: list(1, 3), Gain: 5}, api.Zpk{Zeros: list(1, 2), Poles: list(3), Gain: 5}},
		{api.Zpk{Zeros: list(complex(minus, 1), complex(0, 1)), Poles: list(complex(0, 1))}, api.Zpk{Zeros: list(complex(0, 1))}},
		{api.Zpk{Zeros: list(complex(0, 1), complex(minus, 1)), Poles: list(complex(0, 1))}, api.Zpk{Zeros: list(complex(minus, 1))}},
		{api.Zpk{Zeros: list(complex(0, 1)), Poles: list(complex(0, 1), complex(minus, 1))}, api.Zpk{Poles: list(complex(minus, 1))}},
		{api.Zpk{Zeros: list(complex(0, 1)), Poles: list(complex(minus, 1), complex(0, 1))}, api.Zpk{Poles: list(complex(0, 1))}},
		{api.Zpk{Zeros: list(2, complex(0, 1), -1)}, api.Zpk{Zeros: list(-1, complex(0, 1), 2)}},
		// As often as both have it, and no more.
		{api.Zpk{Zeros: list(3, 3, 3), Poles: list(3, 3)}, api.Zpk{Zeros: list(3)}},
		{api.Zpk{Zeros: list(3, 3), Poles: list(3, 3, 3, 3)}, api.Zpk{Poles: list(3, 3)}},
		{api.Zpk{Zeros: list(3, 4), Poles: list(4, 3), Gain: complex(minus, minus)}, api.Zpk{Gain: complex(minus, minus)}},
		{api.Zpk{Zeros: trial.Noughts(), Poles: list(complex(0, minus))}, api.Zpk{Zeros: list(complex(minus, minus), complex(minus, 0), complex(0, minus))}},
		{api.Zpk{Zeros: trial.Noughts(), Poles: list(0, 0, 0)}, api.Zpk{Zeros: list(complex(minus, minus))}},
		// A number is not its conjugate, and not its opposite.
		{api.Zpk{Zeros: list(complex(1, 2)), Poles: list(complex(1, -2), complex(-1, 2))}, api.Zpk{Zeros: list(complex(1, 2)), Poles: list(complex(-1, 2), complex(1, -2))}},
		{api.Zpk{Poles: list(complex(0, minus), complex(minus, 0), 0, complex(minus, minus), complex(1, minus), 1), Gain: complex(0, minus)}, api.Zpk{Poles: list(complex(minus, minus), complex(minus, 0), complex(0, minus), 0, complex(1, minus), 1), Gain: complex(0, minus)}},
		{api.Zpk{}, api.Zpk{}},
	} {
		if f, e := zpk.Canon(c.f); e != api.OK || !same(f, c.want) {
			t.Errorf("P13.2: Canon(%v) = %v, %d, want %v", c.f, f, e, c.want)
		}
	}
}

// left is what Canon leaves of the zeros and the poles, by its words.
func left(zeros, poles []complex128) (a, b []complex128) {
	gone, out := map[int]bool{}, map[int]bool{}
	for j, p := range poles {
		for i, z := range zeros {
			if z == p && !gone[i] {
				gone[i], out[j] = true, true
				break
			}
		}
	}
	for i, z := range zeros {
		if !gone[i] {
			a = append(a, z)
		}
	}
	for j, p := range poles {
		if !out[j] {
			b = append(b, p)
		}
	}
	return a, b
}

// sorted: the same numbers, bit by bit, from the least in order to the greatest.
func sorted(got, want []complex128) bool {
	rest := slices.Clone(want)
	for i, z := range got {
		if i > 0 && cplx.Order(got[i-1], z) > 0 {
			return false
		}
		at := slices.IndexFunc(rest, func(w complex128) bool { return trial.AlikeNumber(z, w) })
		if at < 0 {
			return false
		}
		rest = slices.Delete(rest, at, at+1)
	}
	return len(rest) == 0
}

func TestCanon(t *testing.T) {
	mix := trial.Mixer(1)
	for range 1000 {
		f := api.Zpk{Zeros: mix.Few(mix.Below(25)), Poles: mix.Few(mix.Below(25)), Gain: mix.FiniteNumbers(1)[0]}
		zeros, poles := left(f.Zeros, f.Poles)
		g, e := zpk.Canon(f)
		if e != api.OK || !sorted(g.Zeros, zeros) || !sorted(g.Poles, poles) || !trial.AlikeNumber(g.Gain, f.Gain) {
			t.Fatalf("P13.2: Canon(%v) = %v, %d", f, g, e)
		}
		if e := zpk.Check(g); e != api.OK {
			t.Fatalf("P13.7: Check(Canon(%v)) = %d", f, e)
		}
		if again, e := zpk.Canon(g); e != api.OK || !same(again, g) {
			t.Fatalf("P13.2: Canon(%v) = %v, %d", g, again, e)
		}
	}
}

func TestRealExamples(t *testing.T) {
	i := complex(0, 1)
	for _, c := range []struct {
		f    api.Zpk
		want bool
	}{
		{api.Zpk{Zeros: list(i, -i), Gain: 2}, true}, {api.Zpk{Zeros: list(i), Gain: 2}, false}, {api.Zpk{Poles: list(complex(1, minus)), Gain: complex(2, minus)}, true}, {api.Zpk{Zeros: list(i, i, -i), Gain: 1}, false},
		{api.Zpk{}, true}, {api.Zpk{Gain: complex(minus, minus)}, true}, {api.Zpk{Gain: i}, false}, {api.Zpk{Gain: complex(1, trial.Least)}, false}, {api.Zpk{Gain: complex(1, -trial.Least)}, false},
		{api.Zpk{Poles: list(i), Gain: 1}, false}, {api.Zpk{Zeros: list(i), Poles: list(-i), Gain: 1}, false}, {api.Zpk{Zeros: list(i, -i), Poles: list(-i, i), Gain: 1}, true}, {api.Zpk{Zeros: list(i, -i), Poles: list(3, -i), Gain: 1}, false},
		{api.Zpk{Poles: list(complex(minus, 2), complex(0, -2))}, true}, {api.Zpk{Poles: list(complex(minus, 2), complex(0, 2), complex(0, -2))}, false}, {api.Zpk{Poles: list(complex(minus, 2), complex(0, 2), complex(0, -2), complex(minus, -2))}, true},
		{api.Zpk{Zeros: trial.Noughts(), Poles: trial.Noughts()[:3]}, true}, {api.Zpk{Zeros: list(complex(5, minus), 5, 7)}, true}, {api.Zpk{Zeros: list(complex(1, trial.Least), 1)}, false},
		{api.Zpk{Zeros: list(complex(1, 1), complex(-1, -1))}, false}, {api.Zpk{Zeros: list(complex(1, 1), complex(-1, 1))}, false}, {api.Zpk{Zeros: list(complex(1, 1), complex(1, -1), complex(1, 1), complex(1, -1)), Gain: -1}, true},
		{api.Zpk{Zeros: list(complex(1, 1), complex(1, -1), complex(2, 1), complex(2, 1))}, false}, {api.Zpk{Zeros: slices.Repeat(list(complex(3, -4), complex(3, 4)), 12), Poles: slices.Repeat(list(complex(3, 4), complex(3, -4)), 12)}, true},
	} {
		if yes, e := zpk.Real(c.f); yes != c.want || e != api.OK {
			t.Errorf("P13.3: Real(%v) = %v, %d", c.f, yes, e)
		}
	}
}

// often is how often z stands in the list.
func often(z complex128, numbers []complex128) int {
	n := 0
	for _, a := range numbers {
		if a == z {
			n++
		}
	}
	return n
}

func TestReal(t *testing.T) {
	mix := trial.Mixer(2)
	found := 0
	for range 3000 {
		f := api.Zpk{Zeros: mix.Few(mix.Below(6)), Poles: mix.Few(mix.Below(4)), Gain: mix.Few(1)[0]}
		if mix.Below(2) == 0 {
			f.Gain = complex(3, minus)
			for _, z := range f.Zeros {
				f.Zeros = append(f.Zeros, complex(real(z), -imag(z)))
			}
		}
		want := imag(f.Gain) == 0
		for _, numbers := range [][]complex128{f.Zeros, f.Poles} {
			for _, z := range numbers {
				want = want && often(z, numbers) == often(complex(real(z), -imag(z)), numbers)
			}
		}
		if yes, e := zpk.Real(f); yes != want || e != api.OK {
			t.Fatalf("P13.3: Real(%v) = %v, %d", f, yes, e)
		}
		if want {
			found++
		}
	}
	if found < 100 || found > 2900 {
		t.Errorf("%d of 3000 filters are real", found)
	}
}

func TestPolysExamples(t *testing.T) {
	half := api.Gauss{Re: trial.Frac(-1, 2), Im: trial.Frac(0, 1)}
	for _, c := range []struct {
		f        api.Zpk
		num, den api.Poly
	}{
		{api.Zpk{Zeros: list(1), Poles: list(0, 0.5), Gain: 2}, trial.Reals(-2, 2), api.Poly{trial.Whole(0, 0), half, trial.Whole(1, 0)}},
		{api.Zpk{Gain: 3}, trial.Reals(3), trial.Reals(1)},
		{api.Zpk{}, nil, trial.Reals(1)},
		{api.Zpk{Zeros: list(complex(0, 1)), Poles: list(complex(minus, minus)), Gain: complex(0, -2)}, api.Poly{trial.Whole(-2, 0), trial.Whole(0, -2)}, trial.Reals(0, 1)},
	} {
		if num, den, e := zpk.Polys(c.f); e != api.OK || !trial.AlikePoly(num, c.num) || !trial.AlikePoly(den, c.den) {
			t.Errorf("P13.4: Polys(%v) = %v, %v, %d", c.f, num, den, e)
		}
	}
	for _, gain := range trial.Noughts() {
		num, den, e := zpk.Polys(api.Zpk{Zeros: list(1, complex(2, 3)), Poles: list(4), Gain: gain})
		if e != api.OK || len(num) > 0 || !trial.AlikePoly(den, trial.Reals(-4, 1)) {
			t.Errorf("P13.4: Polys with the gain %v: %v, %v, %d", gain, num, den, e)
		}
	}
}

func TestPolys(t *testing.T) {
	mix := trial.Mixer(3)
	for round := range 60 {
		most := 6
		if round%20 == 0 {
			most = api.MaxRoots
		}
		f := api.Zpk{Zeros: mix.FiniteNumbers(mix.Below(most + 1)), Poles: mix.FiniteNumbers(most), Gain: mix.FiniteNumbers(1)[0]}
		num := trial.Multiplied(trial.Lines(exactly(f.Zeros)...), trial.Line{trial.Exactly(f.Gain)}.Trim().Poly())
		den := trial.Lines(exactly(f.Poles)...)
		if p, q, e := zpk.Polys(f); e != api.OK || !trial.AlikePoly(p, num) || !trial.AlikePoly(q, den) {
			t.Fatalf("P13.4: Polys(%v): %d", f, e)
		}
	}
}
