package run_test

import (
	"slices"
	"testing"

	"quaver/api"
	"quaver/gauss"
	"quaver/run"
	"quaver/trial"
)

// truly is P16.4 by rational numbers.
func truly(s api.Section, samples []complex128) []api.Gauss {
	nought := trial.Fraction(0, 0, 1)
	b0, b1, b2, a1, a2 := trial.Exactly(s.B0), trial.Exactly(s.B1), trial.Exactly(s.B2), trial.Exactly(s.A1), trial.Exactly(s.A2)
	x1, x2, y1, y2 := nought, nought, nought, nought
	var answers []api.Gauss
	for _, sample := range samples {
		x := trial.Exactly(sample)
		y := b0.Mul(x).Add(b1.Mul(x1)).Add(b2.Mul(x2)).Sub(a1.Mul(y1).Add(a2.Mul(y2)))
		answers = append(answers, y.Gauss())
		x1, x2, y1, y2 = x, x1, y, y1
	}
	return answers
}

// exactly asks for answers of finite numbers.
func exactly(t *testing.T, s api.Section, samples []complex128) []api.Gauss {
	t.Helper()
	answers, e := run.Exact(s, samples)
	if e != api.OK || len(answers) != len(samples) {
		t.Fatalf("P16.4: Exact(%x, %d samples): %d answers, %d", s, len(samples), len(answers), e)
	}
	return answers
}

func TestExact(t *testing.T) {
	half := trial.Fraction(1, 0, 2).Gauss()
	for _, c := range []struct {
		s       api.Section
		samples []complex128
		want    []api.Gauss
	}{
		{api.Section{B0: 1}, nil, nil}, {api.Section{}, list(), nil},
		{api.Section{B0: 1, B1: 2, B2: 3}, list(1, 0, 0, 0), trial.Reals(1, 2, 3, 0)},
		{api.Section{B0: 1, A1: -0.5}, list(1, 0, 1), []api.Gauss{trial.Whole(1, 0), half, trial.Fraction(5, 0, 4).Gauss()}},
		{api.Section{B0: 1, A2: -0.5}, list(1, 0, 0), []api.Gauss{trial.Whole(1, 0), trial.Whole(0, 0), half}},
		{api.Section{B0: complex(0, 1), A1: complex(0, 1)}, list(1, 0, 0), []api.Gauss{trial.Whole(0, 1), trial.Whole(1, 0), trial.Whole(0, -1)}},
		{api.Section{B0: complex(minus, minus)}, list(complex(1, minus), complex(minus, 2)), trial.Reals(0, 0)},
		{api.Section{B0: greatest}, list(greatest), []api.Gauss{trial.Exactly(greatest).Mul(trial.Exactly(greatest)).Gauss()}},
		{api.Section{B0: least}, list(complex(0, least)), []api.Gauss{trial.Exactly(least).Mul(trial.Exactly(complex(0, least))).Gauss()}},
	} {
		if got := exactly(t, c.s, c.samples); !trial.AlikePoly(got, c.want) {
			t.Errorf("P16.4: Exact(%v, %v) = %v, want %v", c.s, c.samples, got, c.want)
		}
	}
}

func TestExactByAnotherRoad(t *testing.T) {
	mix := trial.Mixer(167)
	check := func(s api.Section, samples []complex128) {
		t.Helper()
		if got, want := exactly(t, s, samples), truly(s, samples); !trial.AlikePoly(got, want) {
			t.Errorf("P16.4: Exact(%x, %x) = %v, want %v", s, samples, got, want)
		}
	}
	for round := range 150 {
		check(trial.Section(mix.FiniteNumbers(5)), mix.FiniteNumbers(round%7))
		check(trial.Section(mix.Few(5)), mix.Few(round%20))
		check(mix.Section(mix.Middle), mix.Numbers(round%30, mix.Middle))
	}
	check(mix.Section(mix.Middle), mix.Numbers(256, mix.Middle))
	check(trial.Section(mix.Few(5)), mix.Few(256))
}

func TestExactBesideStep(t *testing.T) {
	// Whole numbers of a few bits are not rounded, so the two tell the same.
	mix := trial.Mixer(168)
	few := func() float64 { return float64(mix.Below(5)-2) / 2 }
	for range 100 {
		s, samples := mix.Section(few), mix.Numbers(12, few)
		answers, _ := run.All(s, api.State{}, samples)
		others := run.Direct(s, samples)
		for i, g := range exactly(t, s, samples) {
			if step, e := gauss.From(answers[i]); e != api.OK || !trial.AlikeGauss(g, step) || answers[i] != others[i] {
				t.Errorf("P16.4: Exact(%v, %v): place %d: %v, Step %v, Direct %v", s, samples, i, g, answers[i], others[i])
			}
		}
	}
	// What is rounded is not the true answer: 0.1 * 3 is not the number nearest to it.
	s := api.Section{B0: 0.1, A1: -0.1}
	answers, _ := run.All(s, api.State{}, list(3, 0, 0))
	for i, g := range exactly(t, s, list(3, 0, 0)) {
		if trial.AlikeGauss(g, trial.Exactly(answers[i]).Gauss()) {
			t.Errorf("P16.4: the true answer %d is the rounded one %v", i, answers[i])
		}
	}
	// Beyond the greatest number, and below the least one, only the true answers go on.
	for _, c := range []struct {
		s api.Section
		x complex128
	}{{api.Section{B0: 1, A1: -greatest}, 2}, {api.Section{B0: 1, A1: -least}, 1}} {
		if got, want := exactly(t, c.s, list(c.x, 0, 0, 0)), truly(c.s, list(c.x, 0, 0, 0)); !trial.AlikePoly(got, want) || trial.Nought(got[3]) {
			t.Errorf("P16.4: Exact(%v, %v) = %v, want %v", c.s, c.x, got, want)
		}
	}
}

// holds looks whether each answer is what the line says, and in form; it tells how many limbs the longest number has.
func holds(t *testing.T, s api.Section, samples []complex128, answers []api.Gauss) int {
	t.Helper()
	longest := 0
	var c []trial.Complex
	for _, a := range trial.Row(s) {
		c = append(c, trial.Stand(trial.Exactly(a).Gauss()))
	}
	nought := trial.Fraction(0, 0, 1)
	x1, x2, y1, y2 := nought, nought, nought, nought
	for i, g := range answers {
		x, y := trial.Stand(trial.Exactly(samples[i]).Gauss()), trial.Stand(g)
		poles := y.Add(c[3].Mul(y1)).Add(c[4].Mul(y2))
		zeros := c[0].Mul(x).Add(c[1].Mul(x1)).Add(c[2].Mul(x2))
		if !poles.Sub(zeros).Multiple() {
			t.Fatalf("P16.4: Exact(%x): the answer %d is not what the line says", s, i)
		}
		if !trial.Reduced(g) {
			t.Fatalf("P16.4: Exact(%x): the answer %d is not in form", s, i)
		}
		longest = max(longest, trial.Longest(g))
		x1, x2, y1, y2 = x, x1, y, y1
	}
	return longest
}

func TestExactOfLongNumbers(t *testing.T) {
	samples := make([]complex128, 256)
	for i := range samples {
		samples[i] = complex(greatest/float64(i+1), least*float64(i-100))
	}
	for _, s := range []api.Section{
		{B0: complex(greatest, least), B1: complex(least, greatest), B2: complex(-greatest, 3*least), A1: complex(greatest, least), A2: complex(3*least, -greatest)},
		{B0: 1, A1: complex(least, -3*least), A2: complex(least, greatest)},
		{B0: least, B2: greatest, A1: greatest, A2: 0.1},
		{B0: 1, A1: least},
	} {
		if n := holds(t, s, samples, exactly(t, s, samples)); n <= api.MaxLimbs {
			t.Errorf("P16.4: Exact(%x): %d limbs at most, of which any may be handed in", s, n)
		}
	}
}

func TestErrorsOfExact(t *testing.T) {
	refused := func(s api.Section, samples []complex128, want api.Errno) {
		t.Helper()
		answers, e := run.Exact(s, samples)
		if e != want || want != api.OK && len(answers) != 0 || want == api.OK && len(answers) != len(samples) {
			t.Errorf("P16.4: Exact(%v, %d samples): %d answers, %d, want %d", s, len(samples), len(answers), e, want)
		}
	}
	for _, n := range []int{0, 1, 255, 256} {
		refused(api.Section{B0: 1, A1: -1}, make([]complex128, n), api.OK)
		refused(api.Section{B0: complex(0, nan)}, make([]complex128, n), api.ErrNaN)
	}
	for _, n := range []int{257, 258, 100000} {
		refused(api.Section{B0: 1, A1: -1}, make([]complex128, n), api.ErrLong)
		refused(api.Section{B0: complex(0, nan)}, make([]complex128, n), api.ErrLong)
	}
	for _, bad := range trial.Endless() {
		for i := range 5 {
			c := list(1, 2, 3, 4, 5)
			c[i] = bad
			s := trial.Section(c)
			refused(s, nil, api.ErrNaN)
			refused(s, list(1, 2), api.ErrNaN)
			refused(s, make([]complex128, 256), api.ErrNaN)
			refused(s, make([]complex128, 257), api.ErrLong)
		}
		for _, n := range []int{1, 2, 3, 256} {
			for _, i := range []int{0, n / 2, n - 1} {
				samples := slices.Repeat(list(1), n)
				samples[i] = bad
				refused(api.Section{}, samples, api.ErrNaN)
				refused(api.Section{B0: bad}, samples, api.ErrNaN)
				refused(api.Section{}, append(samples, make([]complex128, 256)...), api.ErrLong)
			}
		}
	}
	// What only the rounded steps make infinite is none.
	refused(api.Section{B0: greatest, A1: greatest}, list(greatest, greatest, greatest), api.OK)
}
