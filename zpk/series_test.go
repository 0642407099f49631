package zpk_test

import (
	"math"
	"slices"
	"testing"

	"quaver/api"
	"quaver/trial"
	"quaver/zpk"
)

// rounded is the gain nearest to this number, and the error.
func rounded(gain trial.Complex) (complex128, api.Errno) {
	z := gain.Near()
	if !trial.Finite(real(z)) || !trial.Finite(imag(z)) {
		return 0, api.ErrOver
	}
	return z, api.OK
}

func TestGainsOfSeries(t *testing.T) {
	big, little := 0x1p600, 0x1p-600
	for _, c := range []struct {
		a, b, want complex128
		e          api.Errno
	}{
		{complex(big, 0), complex(big, 0), 0, api.ErrOver}, {complex(0, big), complex(0, big), 0, api.ErrOver}, {complex(big, 0), complex(0, -big), 0, api.ErrOver}, {complex(big, little), complex(little, big), 0, api.ErrOver},
		{0x1p1023, 2, 0, api.ErrOver}, {trial.Greatest, 1, trial.Greatest, api.OK}, {trial.Greatest, 1 + 0x1p-52, 0, api.ErrOver}, {-trial.Greatest, complex(0, 1), complex(0, -trial.Greatest), api.OK},
		{2, 3, 6, api.OK}, {complex(1, 2), complex(3, 4), complex(-5, 10), api.OK}, {4, complex(0, 0.5), complex(0, 2), api.OK},
		// The parts of the product are true ones: what is beyond all floats on the way, or lost there, is not in them.
		{complex(big, big), complex(big, -big), 0, api.ErrOver}, {complex(0x1p1000, 0x1p1000), complex(0x1p23, 0x1p23), 0, api.ErrOver}, {complex(0x1p1000, 0x1p1000), complex(0x1p22, -0x1p22), 0x1p1023, api.OK},
		{complex(1+0x1p-30, 1), complex(1+0x1p-30, 1+0x1p-29), complex(0x1p-60, 2+0x1p-28), api.OK},
		// Ties, and next to them.
		{1 + 0x1p-52, 1.5, 1.5 + 0x1p-51, api.OK}, {3, 1 + 0x1p-52, 3 + 0x1p-50, api.OK}, {1 + 0x1p-51, 1.25, 1.25 + 0x1p-51, api.OK}, {complex(0, 1+0x1p-52), 1.5, complex(0, 1.5+0x1p-51), api.OK},
		// Subnormal ones.
		{0x1p-1000, 0x1p-74, trial.Least, api.OK}, {0x1p-1000, 0x1p-75, 0, api.OK}, {0x1p-1000, -0x1p-75, complex(minus, 0), api.OK}, {0x1p-1000, -0x1.8p-75, -trial.Least, api.OK}, {complex(0, trial.Least), 0.5, 0, api.OK}, {complex(0, -trial.Least), 0.5, complex(0, minus), api.OK}, {3 * trial.Least, 0.5, 2 * trial.Least, api.OK}, {trial.Least, trial.Least, 0, api.OK}, {complex(trial.Least, 1), complex(trial.Least, 0), complex(0, trial.Least), api.OK},
		// A true nought is +0.
		{complex(minus, minus), 5, 0, api.OK}, {complex(minus, 0), complex(-1, 0), 0, api.OK}, {1, complex(1, minus), 1, api.OK}, {complex(-1, minus), complex(minus, minus), 0, api.OK}, {complex(1, 1), complex(1, 1), complex(0, 2), api.OK}, {complex(1, 1), complex(-1, 1), -2, api.OK}, {0, trial.Greatest, 0, api.OK},
	} {
		for _, pair := range [][2]complex128{{c.a, c.b}, {c.b, c.a}} {
			f, e := zpk.Series(api.Zpk{Gain: pair[0]}, api.Zpk{Gain: pair[1]})
			if e != c.e {
				t.Errorf("P13.5: Series of the gains %x: %d, want %d", pair, e, c.e)
			}
			trial.Is(t, f.Gain, c.want, "P13.5: Series of the gains %x", pair)
		}
	}
}

func TestGainsOfOver(t *testing.T) {
	for _, c := range []struct {
		gain, want complex128
		e          api.Errno
	}{
		{4, 0.25, api.OK}, {complex(0, 2), complex(0, -0.5), api.OK}, {complex(1, 1), complex(0.5, -0.5), api.OK}, {-3, complex(-1.0/3, 0), api.OK}, {complex(3, 4), complex(0.12, -0.16), api.OK}, {complex(2, minus), 0.5, api.OK}, {complex(minus, 2), complex(0, -0.5), api.OK},
		{trial.Least, 0, api.ErrOver}, {0x1p-1024, 0, api.ErrOver}, {complex(0, -0x1p-1024), 0, api.ErrOver}, {0x1p-1023, 0x1p1023, api.OK}, {complex(0, -0x1p-1023), complex(0, 0x1p1023), api.OK}, {complex(0x1p-1030, 0x1p-1074), 0, api.ErrOver},
		{0x1.0000000000004p-1024, 0x1.ffffffffffff8p1023, api.OK},
		// Beyond the greatest in the one part alone; and where a part by itself would be, but not beside the other.
		{complex(0x1p-1024, trial.Least), 0, api.ErrOver}, {complex(trial.Least, 0x1p-1024), 0, api.ErrOver}, {complex(0x1p-1024, 0x1p-1040), complex(0x1.fffffffep1023, -0x1.fffffffep1007), api.OK}, {complex(0x1p-1024, 1), complex(0x1p-1024, -1), api.OK}, {complex(trial.Least, 0x1p-500), complex(0x1p-74, -0x1p500), api.OK},
		// Subnormal, a tie of noughts, next to it.
		{0x1p1023, 0x1p-1023, api.OK}, {trial.Greatest, 0x1p-1024, api.OK}, {complex(trial.Greatest, trial.Greatest), complex(0x1p-1025, -0x1p-1025), api.OK}, {complex(0x1p537, 0x1p-1), complex(0x1p-537, minus), api.OK}, {complex(0x1p537, -0x1.8p-1), complex(0x1p-537, trial.Least), api.OK}, {complex(0x1p1000, -0x1p-1000), 0x1p-1000, api.OK},
	} {
		f, e := zpk.Over(api.Zpk{Gain: c.gain})
		if e != c.e {
			t.Errorf("P13.5: Over of the gain %x: %d, want %d", c.gain, e, c.e)
		}
		trial.Is(t, f.Gain, c.want, "P13.5: Over of the gain %x", c.gain)
	}
	for _, gain := range trial.Noughts() {
		if f, e := zpk.Over(api.Zpk{Zeros: list(1), Gain: gain}); e != api.ErrZero || !bare(f) {
			t.Errorf("P13.5: Over of the gain %v: %v, %d, want ErrZero", gain, f, e)
		}
	}
}

func TestSeriesAndOver(t *testing.T) {
	mix := trial.Mixer(4)
	beyond := 0
	for range 2000 {
		f := api.Zpk{Zeros: mix.FiniteNumbers(mix.Below(13)), Poles: mix.FiniteNumbers(mix.Below(13)), Gain: mix.FiniteNumbers(1)[0]}
		g := api.Zpk{Zeros: mix.FiniteNumbers(mix.Below(13)), Poles: mix.FiniteNumbers(mix.Below(13)), Gain: mix.FiniteNumbers(1)[0]}
		want := api.Zpk{}
		gain, fault := rounded(trial.Exactly(f.Gain).Mul(trial.Exactly(g.Gain)))
		if fault == api.OK {
			want = api.Zpk{Zeros: append(slices.Clone(f.Zeros), g.Zeros...), Poles: append(slices.Clone(f.Poles), g.Poles...), Gain: gain}
		} else {
			beyond++
		}
		both, e := zpk.Series(f, g)
		if e != fault || !same(both, want) {
			t.Fatalf("P13.5: Series(%x, %x) = %x, %d, want %x, %d", f, g, both, e, want, fault)
		}
		want, fault = api.Zpk{}, api.ErrZero
		if f.Gain != 0 {
			gain, fault = rounded(trial.Fraction(1, 0, 1).Quo(trial.Exactly(f.Gain)))
		}
		if fault == api.OK {
			want = api.Zpk{Zeros: f.Poles, Poles: f.Zeros, Gain: gain}
		}
		over, e := zpk.Over(f)
		if e != fault || !same(over, want) {
			t.Fatalf("P13.5: Over(%x) = %x, %d, want %x, %d", f, over, e, want, fault)
		}
		if e, f := zpk.Check(both), zpk.Check(over); e != api.OK || f != api.OK {
			t.Fatalf("P13.7: Check of what Series and Over answer: %d, %d", e, f)
		}
	}
	if beyond < 50 {
		t.Errorf("only %d products are beyond the greatest", beyond)
	}
}

func TestSeriesOfMany(t *testing.T) {
	some := func(n int) []complex128 { return slices.Repeat(list(complex(0.5, minus)), n) }
	bad := complex(nan, 0)
	for _, c := range []struct{ a, b, n, m int }{{24, 0, 0, 24}, {0, 24, 24, 0}, {12, 12, 12, 12}, {1, 23, 20, 4}, {24, 0, 24, 0}, {25, 0, 0, 0}, {0, 25, 0, 0}, {0, 0, 25, 0}, {0, 0, 0, 25}, {12, 13, 0, 0}, {13, 12, 0, 0}, {0, 0, 24, 1}, {0, 0, 1, 24}, {24, 24, 0, 0}, {24, 1, 24, 0}} {
		f, g := api.Zpk{Zeros: some(c.a), Poles: some(c.n), Gain: 1}, api.Zpk{Zeros: some(c.b), Poles: some(c.m), Gain: 2}
		want := api.OK
		if c.a+c.b > api.MaxRoots || c.n+c.m > api.MaxRoots {
			want = api.ErrLong
		}
		got, e := zpk.Series(f, g)
		if e != want || want == api.OK && (len(got.Zeros) != c.a+c.b || len(got.Poles) != c.n+c.m || got.Gain != 2) || want != api.OK && !bare(got) {
			t.Errorf("P13.5: Series of %d and %d zeros, %d and %d poles: %v, %d, want %d", c.a, c.b, c.n, c.m, got, e, want)
		}
		// The lesser number goes first: too many ahead of a NaN, a NaN ahead of gains beyond the greatest.
		g.Gain = bad
		if want == api.OK {
			want = api.ErrNaN
		}
		if _, e := zpk.Series(f, g); e != want {
			t.Errorf("Errors: Series of %d and %d zeros, %d and %d poles, with a NaN: %d, want %d", c.a, c.b, c.n, c.m, e, want)
		}
	}
	far := api.Zpk{Zeros: list(bad), Gain: trial.Greatest}
	for _, pair := range [][2]api.Zpk{{far, {Gain: 2}}, {{Gain: 2}, far}, {far, {Gain: complex(0, math.MaxFloat64)}}} {
		if f, e := zpk.Series(pair[0], pair[1]); e != api.ErrNaN || !bare(f) {
			t.Errorf("Errors: Series of a NaN and gains beyond the greatest: %v, %d, want ErrNaN", f, e)
		}
	}
}
