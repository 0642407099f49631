package lattice_test

import (
	"slices"
	"testing"

	"quaver/api"
	"quaver/gauss"
	"quaver/lattice"
	"quaver/refl"
	"quaver/trial"
)

func TestExact(t *testing.T) {
	for _, c := range []struct {
		ks, samples []complex128
		want        []trial.Complex
	}{
		{list(0.5, 0.25), list(1, 0, 0), []trial.Complex{trial.Fraction(1, 0, 1), trial.Fraction(-5, 0, 8), trial.Fraction(9, 0, 64)}},
		{nil, list(complex(minus, 0.75), -6), []trial.Complex{trial.Fraction(0, 3, 4), trial.Fraction(-6, 0, 1)}},
		{list(0.5i), list(1, 0, 0), []trial.Complex{trial.Fraction(1, 0, 1), trial.Fraction(0, -1, 2), trial.Fraction(-1, 0, 4)}},
		{list(complex(minus, minus)), list(1, complex(0, minus)), []trial.Complex{trial.Fraction(1, 0, 1), trial.Fraction(0, 0, 1)}},
		{list(0.5, 0.5), nil, nil},
	} {
		got := exactly(t, c.ks, c.samples)
		for i, g := range got {
			if !trial.AlikeGauss(g, c.want[i].Gauss()) {
				t.Errorf("P18.5: Exact(%v, %v): place %d: %v, want %v", c.ks, c.samples, i, g, c.want[i])
			}
		}
	}
	mix := trial.Mixer(187)
	for round := range 120 {
		ks, samples := ladder(&mix, round%5), mix.FiniteNumbers(5)
		if got, want := exactly(t, ks, samples), truly(ks, samples); !trial.AlikePoly(got, want) {
			t.Fatalf("P18.5: Exact(%x, %x) = %v, want %v", ks, samples, got, want)
		}
	}
	ks, samples := mix.Numbers(api.MaxRoots, mix.Middle), mix.Numbers(8, mix.Middle)
	if got, want := exactly(t, ks, samples), truly(ks, samples); !trial.AlikePoly(got, want) {
		t.Errorf("P18.5: Exact of %d numbers", len(ks))
	}
}

func TestExactBesideStep(t *testing.T) {
	// Parts of a few bits are not rounded, so the two tell the same.
	mix := trial.Mixer(188)
	for round := range 100 {
		ks, samples := mix.Numbers(round%4, halves(&mix)), mix.Numbers(4, halves(&mix))
		answers := made(t, ks).Run(samples)
		for i, g := range exactly(t, ks, samples) {
			if step, e := gauss.From(answers[i]); e != api.OK || !trial.AlikeGauss(g, step) {
				t.Errorf("P18.5: Exact(%v, %v): place %d: %v, Step %v", ks, samples, i, g, answers[i])
			}
		}
	}
	// What is rounded is not the true answer.
	answers := made(t, list(0.1, 0.3)).Run(list(1, 0.7, 0))
	for i, g := range exactly(t, list(0.1, 0.3), list(1, 0.7, 0))[1:] {
		if trial.AlikeGauss(g, trial.Exactly(answers[i+1]).Gauss()) {
			t.Errorf("P18.5: the true answer %d is the rounded one %v", i+1, answers[i+1])
		}
	}
	// Beyond the greatest number, and below the least one, only the true answers go on.
	for _, k := range []complex128{greatest, least, complex(least, -greatest)} {
		if got, want := exactly(t, list(k), list(3, 0, 0, 0)), truly(list(k), list(3, 0, 0, 0)); !trial.AlikePoly(got, want) || trial.Nought(got[3]) {
			t.Errorf("P18.5: Exact(%v) = %v, want %v", k, got, want)
		}
	}
}

// grown is refl.Up of these numbers, as they are rounded.
func grown(t *testing.T, ks []complex128) api.Poly {
	t.Helper()
	var numbers []api.Gauss
	for _, k := range ks {
		numbers = append(numbers, trial.Exactly(k).Gauss())
	}
	p, e := refl.Up(numbers)
	if e != api.OK || len(p) != len(ks)+1 {
		t.Fatalf("P12.2: Up of %d numbers: %d places, %d", len(ks), len(p), e)
	}
	return p
}

// line is the true answers by the difference equation of P18.6.
func line(p api.Poly, samples []complex128) []api.Gauss {
	a := trial.ValuePoly(p)
	slices.Reverse(a) // that of z^n first: a[i] goes with the answer i places ago
	var answers []trial.Complex
	var told []api.Gauss
	for t, x := range samples {
		y := trial.Exactly(x)
		for i := 1; i < len(a) && i <= t; i++ {
			y = y.Sub(a[i].Mul(answers[t-i]))
		}
		answers, told = append(answers, y), append(told, y.Gauss())
	}
	return told
}

func TestDifferenceEquation(t *testing.T) {
	mix := trial.Mixer(189)
	for round := range 150 {
		ks, samples := ladder(&mix, round%6), mix.FiniteNumbers(6)
		if got, want := exactly(t, ks, samples), line(grown(t, ks), samples); !trial.AlikePoly(got, want) {
			t.Fatalf("P18.6: Exact(%x, %x) = %v, want %v", ks, samples, got, want)
		}
	}
	// As many numbers as may be, and more samples than numbers: the equation's end is reached.
	ks, samples := mix.Numbers(api.MaxRoots, halves(&mix)), mix.Numbers(30, halves(&mix))
	if got, want := exactly(t, ks, samples), line(grown(t, ks), samples); !trial.AlikePoly(got, want) {
		t.Errorf("P18.6: Exact of %d numbers and %d samples", len(ks), len(samples))
	}
	ks, samples = mix.Numbers(3, mix.Middle), mix.Numbers(20, mix.Middle)
	if got, want := exactly(t, ks, samples), line(grown(t, ks), samples); !trial.AlikePoly(got, want) {
		t.Errorf("P18.6: Exact of %d numbers and %d samples", len(ks), len(samples))
	}
	// Numbers of the magnitude 1, of which no reflection numbers tell.
	for _, ks := range [][]complex128{list(1), list(-1i, 1), list(0.5, 1, 0.25)} {
		if got, want := exactly(t, ks, list(1, 2, 3, 4, 5)), line(grown(t, ks), list(1, 2, 3, 4, 5)); !trial.AlikePoly(got, want) {
			t.Errorf("P18.6: Exact(%v) = %v, want %v", ks, got, want)
		}
	}
}

// holds looks whether each answer is what the difference equation says, and in form; it tells how many limbs the longest number has.
func holds(t *testing.T, ks, samples []complex128, answers []api.Gauss) int {
	t.Helper()
	var a, ys []trial.Complex
	for _, c := range slices.Backward(grown(t, ks)) {
		a = append(a, trial.Stand(c))
	}
	longest := 0
	for i, g := range answers {
		ys = append(ys, trial.Stand(g))
		left := ys[i].Sub(trial.Stand(trial.Exactly(samples[i]).Gauss()))
		for j := 1; j < len(a) && j <= i; j++ {
			left = left.Add(a[j].Mul(ys[i-j]))
		}
		if !left.Multiple() {
			t.Fatalf("P18.6: Exact(%x): the answer %d is not what the equation says", ks, i)
		}
		if !trial.Reduced(g) {
			t.Fatalf("P18.5: Exact(%x): the answer %d is not in form", ks, i)
		}
		longest = max(longest, trial.Longest(g))
	}
	return longest
}

func TestExactOfLongNumbers(t *testing.T) {
	mix := trial.Mixer(190)
	samples := make([]complex128, 128)
	for i := range samples {
		samples[i] = complex(greatest/float64(i+1), least*float64(i-100))
	}
	wide := make([]complex128, api.MaxRoots)
	for i := range wide {
		wide[i] = complex(greatest/float64(i+1), least*float64(2*i+3))
	}
	for _, ks := range [][]complex128{wide, wide[:3], list(complex(greatest, least)), list(least, greatest)} {
		if n := holds(t, ks, samples, exactly(t, ks, samples)); n <= 2048 {
			t.Errorf("P18.5: Exact(%x): %d limbs at most", ks, n)
		}
	}
	for range 3 {
		ks, samples := mix.FiniteNumbers(api.MaxRoots), mix.FiniteNumbers(128)
		holds(t, ks, samples, exactly(t, ks, samples))
	}
}

func TestErrorsOfExact(t *testing.T) {
	refused := func(ks, samples []complex128, want api.Errno) {
		t.Helper()
		answers, e := lattice.Exact(ks, samples)
		if e != want || want != api.OK && len(answers) != 0 || want == api.OK && len(answers) != len(samples) {
			t.Errorf("Errors: Exact(%d numbers, %d samples): %d answers, %d, want %d", len(ks), len(samples), len(answers), e, want)
		}
	}
	for _, n := range []int{0, 1, 127, 128} {
		for _, count := range counts() {
			refused(make([]complex128, count), make([]complex128, n), api.OK)
		}
		refused(make([]complex128, 25), make([]complex128, n), api.ErrLong)
		refused(make([]complex128, 10000), make([]complex128, n), api.ErrLong)
		refused(list(complex(0, nan)), make([]complex128, n), api.ErrNaN)
	}
	for _, n := range []int{129, 130, 100000} {
		refused(nil, make([]complex128, n), api.ErrLong)
		refused(list(0.5), make([]complex128, n), api.ErrLong)
		refused(list(complex(0, nan)), make([]complex128, n), api.ErrLong)
		refused(make([]complex128, 25), make([]complex128, n), api.ErrLong)
	}
	for _, bad := range trial.Endless() {
		for _, n := range []int{1, 2, 3, 24, 25} {
			for _, i := range []int{0, n / 2, n - 1} {
				ks := slices.Repeat(list(0.5), n)
				ks[i] = bad
				want := api.ErrNaN
				if n > api.MaxRoots {
					want = api.ErrLong
				}
				refused(ks, nil, want)
				refused(ks, list(1), want)
				refused(ks, list(bad), want)
				refused(ks, slices.Repeat(list(bad), 129), api.ErrLong)
				// The same numbers as samples.
				refused(nil, ks, api.ErrNaN)
				refused(list(0.5), ks, api.ErrNaN)
				refused(make([]complex128, 24), ks, api.ErrNaN)
				refused(make([]complex128, 25), ks, api.ErrLong)
			}
		}
		last := append(make([]complex128, 127), bad)
		refused(list(0.5), last, api.ErrNaN)
		refused(list(0.5), append(last, 0), api.ErrLong)
	}
	// What only the rounded steps make infinite is none.
	refused(list(greatest, greatest), list(greatest, greatest, greatest), api.OK)
}
