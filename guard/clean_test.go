package guard_test

import (
	"math"
	"testing"

	"quaver/api"
	"quaver/guard"
	"quaver/trial"
)

func TestCleanExamples(t *testing.T) {
	for _, c := range []struct {
		g       api.Guard
		a, want complex128
		n       int
	}{
		{api.Guard{Flush: true}, complex(least, -0x1p-1030), complex(0, minus), 2},
		{api.Guard{Clip: true}, complex(-infinity, least), complex(-greatest, least), 1},
		{api.Guard{Mute: true}, complex(nan, infinity), complex(0, infinity), 1},
		{api.Guard{Flush: true, Clip: true}, complex(least, -infinity), complex(0, -greatest), 2},
		{none, complex(nan, least), complex(nan, least), 0},
	} {
		got, n := guard.Clean(c.g, c.a)
		trial.Is(t, got, c.want, "P19.1: Clean(%v, %v)", c.g, c.a)
		if n != c.n {
			t.Errorf("P19.1: Clean(%v, %v) changed %d, want %d", c.g, c.a, n, c.n)
		}
	}
}

// cleaned is what P19.1 makes of a part, and whether that is a change, case by case as it stands there.
func cleaned(g api.Guard, x float64) (float64, int) {
	for _, c := range []struct {
		is, flag bool
		becomes  float64
	}{
		{math.IsNaN(x), g.Mute, 0},
		{x == infinity, g.Clip, greatest}, {x == -infinity, g.Clip, -greatest},
		{0 < x && x < low, g.Flush, 0}, {-low < x && x < 0, g.Flush, minus},
	} {
		if c.is && c.flag {
			return c.becomes, 1
		}
	}
	return x, 0
}

// cleans holds Clean against the cases.
func cleans(t *testing.T, g api.Guard, a complex128) {
	t.Helper()
	re, n := cleaned(g, real(a))
	im, m := cleaned(g, imag(a))
	got, changed := guard.Clean(g, a)
	trial.Is(t, got, complex(re, im), "P19.1: Clean(%v, %x)", g, a)
	if changed != n+m {
		t.Errorf("P19.1: Clean(%v, %x) changed %d, want %d", g, a, changed, n+m)
	}
}

func TestClean(t *testing.T) {
	// Every part beside every other one, under every guard.
	parts := append(trial.Edges(), trial.Floats()...)
	mix := trial.Mixer(201)
	for _, g := range trial.Guards() {
		for _, x := range parts {
			for _, y := range parts {
				cleans(t, g, complex(x, y))
			}
		}
		for range 2000 {
			cleans(t, g, complex(mix.Float(), mix.Float()))
			// Subnormal numbers of any bits.
			cleans(t, g, complex(math.Float64frombits(mix.Bits()&^(0x7ff<<52)), mix.Float()))
		}
	}
}

func TestCleanTwice(t *testing.T) {
	for _, g := range trial.Guards() {
		for _, x := range trial.Edges() {
			for _, y := range trial.Edges() {
				once, _ := guard.Clean(g, complex(x, y))
				if again, n := guard.Clean(g, once); n != 0 || !trial.AlikeNumber(again, once) {
					t.Errorf("P19.1: Clean(%v, %v), which is clean, = %v, %d", g, once, again, n)
				}
			}
		}
	}
}
