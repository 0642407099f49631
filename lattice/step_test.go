package lattice_test

import (
	"slices"
	"testing"

	"quaver/api"
	"quaver/cplx"
	"quaver/lattice"
	"quaver/trial"
)

func TestExamples(t *testing.T) {
	for _, c := range []struct {
		ks, samples, want, back []complex128
	}{
		{nil, list(3, complex(0, minus), complex(nan, infinity)), list(3, complex(0, minus), complex(nan, infinity)), nil},
		{list(0.5), list(1), list(1), list(1)},
		{list(0.5), list(1, 0, 0), list(1, -0.5, 0.25), list(0.25)},
		{list(0.5i), list(1, 0, 0), list(1, -0.5i, -0.25), list(-0.25)},
		{list(0.5, 0.25), list(1), list(1), list(1, 0.5)},
		{list(0.5, 0.25), list(1, 0, 0), list(1, -0.625, 0.140625), list(0.140625, -0.5546875)},
		// Numbers of magnitude 1, and above it.
		{list(1), list(1, 0, 0), list(1, -1, 1), list(1)},
		{list(-2), list(1, 0, 0, 0), list(1, 2, 4, 8), list(8)},
		{list(3i, 2), list(1, 0, 0), list(1, 3i, -11), list(-11, 36i)},
	} {
		l := made(t, c.ks)
		if got := l.Run(c.samples); !slices.EqualFunc(got, c.want, func(a, b complex128) bool { return a == b || trial.AlikeNumber(a, b) }) {
			t.Errorf("P18.2: Run(%v) of %v = %v, want %v", c.samples, c.ks, got, c.want)
		}
		if got := l.Back(); !slices.Equal(got, c.back) {
			t.Errorf("P18.3: Back of %v behind %v = %v, want %v", c.ks, c.samples, got, c.back)
		}
	}
}

func TestOrderOfSteps(t *testing.T) {
	// By hand: behind 1 and 1 what is kept is 1 and 0.5, and then all are others.
	l := made(t, list(0.5, 0.25, -0.5))
	are(t, l.Run(list(1)), list(1), "P18.2: the first answer")
	are(t, l.Back(), list(1, 0.5, 0.25), "P18.2: behind the first")
	// f = 0 + 0.5 * 0.25 = 0.125, then 0.125 - 0.25 * 0.5 = 0, c_2 = 0.5 + 0.25 * 0, then 0 - 0.5 * 1, c_1 = 1 - 0.5 * 0.5.
	are(t, l.Run(list(0)), list(-0.5), "P18.2: the second answer")
	are(t, l.Back(), list(-0.5, 0.75, 0.5), "P18.2: behind the second")
	// k on the way down, its conjugate on the way up.
	l = made(t, list(1i, 0))
	are(t, l.Run(list(1)), list(1), "P18.2: of (0, 1) and 0")
	are(t, l.Back(), list(1, complex(0, -1)), "P18.2: of (0, 1) and 0")
}

// stepsLike runs samples through a lattice and its model side by side.
func stepsLike(t *testing.T, ks, samples []complex128) {
	t.Helper()
	l, m := made(t, ks), newModel(ks)
	are(t, l.Back(), m.back, "P18.1: Back of %x at rest", ks)
	for _, x := range samples {
		trial.Is(t, l.Step(x), m.step(x), "P18.2: Step(%x) of %x", x, ks)
		are(t, l.Back(), m.back, "P18.2: Back of %x behind %x", ks, x)
	}
	are(t, l.Numbers(), ks, "P18.3: Numbers")
}

func TestStep(t *testing.T) {
	mix := trial.Mixer(181)
	for _, n := range counts() {
		for range 12 {
			stepsLike(t, ladder(&mix, n), mix.Numbers(6, mix.Kind()))
		}
	}
	for range 1500 {
		stepsLike(t, ladder(&mix, 1+mix.Below(3)), mix.Numbers(3, mix.Kind()))
	}
}

func TestNoughtsAndSubnormalNumbers(t *testing.T) {
	for _, x := range trial.Noughts() {
		are(t, made(t, nil).Run(list(x)), list(x), "P18.2: a nought through no numbers")
		for _, k := range append(trial.Noughts(), trial.Signs(0.5, 0)...) {
			stepsLike(t, list(k), list(x, x, 1, x))
			stepsLike(t, list(k, conj(k), -k), list(x, x, 1, x))
		}
	}
	// Mul(0.5, 0) is (0.5 * 0 - 0 * 0, 0.5 * 0 + 0 * 0) = (0, 0), and -0 - 0 is -0.
	l := made(t, list(0.5))
	are(t, l.Run(list(complex(minus, minus))), list(complex(minus, minus)), "P18.2: noughts below")
	are(t, l.Back(), list(complex(minus, minus)), "P18.2: noughts below")
	// What is kept is added to a product of noughts: -0 + 0 is 0 above, and nothing where it goes nowhere.
	are(t, l.Run(list(0)), list(0), "P18.2: a nought behind one below")
	var parts []float64
	for _, x := range []float64{least, 3 * least, trial.LeastNormal - least, trial.LeastNormal, 0.5, 1 - 0x1p-53} {
		parts = append(parts, x, -x, 0, minus)
	}
	mix := trial.Mixer(182)
	rule := func() float64 { return parts[mix.Below(len(parts))] }
	for range 800 {
		stepsLike(t, mix.Numbers(1+mix.Below(4), rule), mix.Numbers(4, rule))
	}
	// Nothing is flushed: halved down to the least number, and then even.
	l = made(t, list(-0.5))
	l.Step(0x1p-1070)
	are(t, l.Run(make([]complex128, 6)), list(8*least, 4*least, 2*least, least, 0, 0), "P18.4: halves")
	l = made(t, list(-1))
	l.Step(complex(3*least, -least))
	are(t, l.Run(make([]complex128, 3)), slices.Repeat(list(complex(3*least, -least)), 3), "P18.4: a subnormal number that stays")
}

func TestEndlessSamples(t *testing.T) {
	mix := trial.Mixer(183)
	for _, bad := range trial.Endless() {
		are(t, made(t, nil).Run(list(bad, 1)), list(bad, 1), "P18.4: %v through no numbers", bad)
		for _, ks := range [][]complex128{list(0.5), list(0), list(complex(0, -0.25)), list(0.5, 0.25i, -0.5), mix.Numbers(api.MaxRoots, mix.Middle), mix.FiniteNumbers(5), mix.Few(4)} {
			stepsLike(t, ks, list(bad, 0, 1))
			stepsLike(t, ks, list(1, 2i, bad, 3, 0, bad, complex(-1, 0.5), 0))
		}
	}
	// Parts of products: 0.5 * infinity and 0 * infinity.
	l := made(t, list(0.5, 0))
	are(t, l.Run(list(complex(infinity, 0))), list(complex(infinity, 0)), "P18.4: an infinity")
	are(t, l.Back(), list(complex(infinity, 0), complex(infinity, nan)), "P18.4: Back behind an infinity")
	are(t, l.Run(list(1)), list(complex(nan, nan)), "P18.4: behind an infinity")
	// What rounding makes infinite is no error either.
	l = made(t, list(-2))
	are(t, l.Run(list(greatest, 0)), list(greatest, complex(infinity, 0)), "P18.4: beyond the greatest")
	are(t, l.Back(), list(complex(infinity, 0)), "P18.4: beyond the greatest")
}

func TestPartByPart(t *testing.T) {
	// Where a product is fused with the difference behind it, the bits tell.
	mix := trial.Mixer(184)
	differ := 0
	for range 4000 {
		k, b := mix.Numbers(1, mix.Middle)[0], mix.Numbers(1, mix.Middle)[0]
		l := made(t, list(k))
		l.Step(b)
		x := mix.Numbers(1, mix.Middle)[0]
		want := trial.Apart(x, trial.Product(k, b))
		trial.Is(t, l.Step(x), want, "P18.2: %x - %x * %x", x, k, b)
		if fused := trial.Exactly(x).Sub(trial.Exactly(k).Mul(trial.Exactly(b))).Near(); fused != want {
			differ++
		}
	}
	if differ < 1000 {
		t.Errorf("P18.2: only %d of 4000 steps tell how they are rounded", differ)
	}
	// The products stand as layer 3 has them.
	l := made(t, list(complex(0, 2)))
	l.Step(complex(0, infinity))
	if want := 1 - cplx.Mul(complex(0, 2), complex(0, infinity)); !trial.AlikeNumber(l.Step(1), want) {
		t.Errorf("P18.2: not %v", want)
	}
}

func TestRun(t *testing.T) {
	mix := trial.Mixer(185)
	for round := range 60 {
		ks := ladder(&mix, counts()[round%len(counts())])
		l, m := made(t, ks), newModel(ks)
		for _, n := range []int{0, 1, 5} {
			samples := mix.Numbers(n, mix.Kind())
			are(t, l.Run(samples), m.run(samples), "P18.3: Run(%x) of %x", samples, ks)
			are(t, l.Back(), m.back, "P18.3: Back behind Run(%x) of %x", samples, ks)
		}
		was := l.Back()
		if got := append(l.Run(nil), l.Run(list())...); len(got) != 0 {
			t.Errorf("P18.3: Run of none = %v", got)
		}
		are(t, l.Back(), was, "P18.3: Back behind Run of none")
	}
}

func TestCutAnyhow(t *testing.T) {
	mix := trial.Mixer(186)
	for _, n := range []int{0, 1, 2, 5, 24} {
		for range 4 {
			ks, samples := ladder(&mix, n), mix.Numbers(12, mix.Kind())
			whole := made(t, ks)
			want := whole.Run(samples)
			for i := range len(samples) + 1 {
				for j := i; j <= len(samples); j++ {
					l := made(t, ks)
					got := slices.Concat(l.Run(samples[:i]), l.Run(samples[i:j]), l.Run(samples[j:]))
					are(t, got, want, "P4: Run of %x cut at %d and %d", samples, i, j)
					are(t, l.Back(), whole.Back(), "P4: Back behind pieces cut at %d and %d", i, j)
				}
			}
			one := made(t, ks)
			for i, x := range samples {
				trial.Is(t, one.Step(x), want[i], "P4: Step %d", i)
			}
			are(t, one.Back(), whole.Back(), "P4: Back behind single steps")
		}
	}
}

func TestNilLattice(t *testing.T) {
	var l *lattice.Lattice
	for _, x := range append(trial.Endless(), 1, 0, complex(minus, minus)) {
		trial.Is(t, l.Step(x), 0, "P18.3: Step(%v) of a nil one", x)
		if got := l.Run(list(x, x)); len(got) != 0 {
			t.Errorf("P18.3: Run of a nil one = %v", got)
		}
	}
	if len(l.Run(nil)) != 0 || len(l.Run(list())) != 0 || len(l.Back()) != 0 || len(l.Numbers()) != 0 {
		t.Error("P18.3: a nil one tells something")
	}
}

func TestNoneOfNewPanics(t *testing.T) {
	// Of these nothing is promised but that they end.
	var empty lattice.Lattice
	shared := *made(t, list(0.5, 0.25))
	for _, l := range []*lattice.Lattice{&empty, &shared} {
		l.Step(1)
		l.Run(list(1, complex(nan, 0)))
		l.Back()
		l.Numbers()
	}
}
