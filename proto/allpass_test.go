package proto_test

import (
	"math"
	"math/big"
	"slices"
	"testing"

	"quaver/api"
	"quaver/biquad"
	"quaver/circle"
	"quaver/cplx"
	"quaver/proto"
	"quaver/resp"
	"quaver/trial"
)

// mirrored is P24.5, word by word.
func mirrored(poles []complex128) api.Zpk {
	f := api.Zpk{Poles: poles}
	gain := whole(1)
	for _, p := range poles {
		f.Zeros = append(f.Zeros, whole(1).Quo(trial.Exactly(p).Conj()).Near())
		gain = gain.Mul(trial.Exactly(p).Conj())
	}
	f.Gain = gain.Near()
	return f
}

func TestAllpassExamples(t *testing.T) {
	for _, c := range []struct {
		poles, zeros []complex128
		gain         complex128
	}{
		{list(0.5, 0.5i), list(2, 2i), complex(0, -0.25)}, {nil, nil, 1}, {list(), nil, 1}, {list(0.25), list(4), 0.25}, {list(-0.5), list(-2), -0.5}, {list(-0.5i), list(complex(0, -2)), 0.5i}, {list(0.5i, complex(0, -0.5)), list(2i, complex(0, -2)), 0.25},
		// The signs of a pole's noughts stay; what is nought truly is +0.
		{list(complex(minus, 0.5), complex(0.5, minus)), list(2i, 2), complex(0, -0.25)},
		// Parts that are rounded to noughts have the signs of the true ones.
		{list(-0x1p-600, 0x1p-600), list(-0x1p600, 0x1p600), complex(minus, 0)}, {list(complex(0, 0x1p-600), complex(0x1p-600, 0)), list(complex(0, 0x1p600), 0x1p600), complex(0, minus)}, {list(0x1p-537, -0x1p-537), list(0x1p537, -0x1p537), -least}, {list(0x1p-537, 0x1p-538), list(0x1p537, 0x1p538), 0},
	} {
		got, e := proto.Allpass(c.poles)
		is(t, "P24.5: Allpass", got, e, api.Zpk{Zeros: c.zeros, Poles: c.poles, Gain: c.gain})
	}
}

// inside are so many numbers inside the circle, at most of the magnitude 0.9 but for those next to it.
func inside(mix *trial.Mixer, n int) []complex128 {
	var all []complex128
	for len(all) < n {
		p := cplx.Scale(math.Ldexp(1, -mix.Below(8)), mix.Numbers(1, func() float64 { return math.Ldexp(float64(mix.Bits()>>11)*0x1p-53-0.5, 1) })[0])
		switch mix.Below(6) {
		case 0:
			p, _ = circle.Turn(mix.Below(64), 6)
			p = cplx.Scale(1-0x1p-50, p)
		case 1:
			p = cplx.Scale(math.Ldexp(1, -mix.Below(900)), p)
		}
		if where, e := circle.On(p); e == api.OK && where < 0 && p != 0 {
			all = append(all, p)
		}
	}
	return all
}

func TestAllpassByAnotherRoad(t *testing.T) {
	mix := trial.Mixer(264)
	for n := range api.MaxRoots + 1 {
		for range 10 {
			poles := inside(&mix, n)
			got, e := proto.Allpass(poles)
			is(t, "P24.5: Allpass", got, e, mirrored(poles))
			for i, p := range poles {
				if zero, e := circle.Mirror(p); e != api.OK || !trial.AlikeNumber(got.Zeros[i], zero) {
					t.Errorf("P24.5: Allpass has the zero %x for the pole %x", got.Zeros[i], p)
				}
			}
		}
	}
}

func TestAllpassAnswers(t *testing.T) {
	poles := list(0.5, complex(0.3, 0.4), complex(-0.7, 0.1), complex(0.2, -0.6))
	f, e := proto.Allpass(poles)
	sections, g := biquad.Filter(f)
	grid, h := resp.Grid(sections, 6)
	if e != api.OK || g != api.OK || h != api.OK {
		t.Fatalf("P24.5: %d, %d, %d", e, g, h)
	}
	for _, a := range grid {
		if math.Abs(cplx.Abs(a)-1) > 1e-12 {
			t.Errorf("P24.5: Allpass answers %v", a)
		}
	}
}

// wanted is the error that goes first, of a list of poles.
func wanted(poles []complex128) api.Errno {
	if len(poles) > api.MaxRoots {
		return api.ErrLong
	}
	endless := func(a complex128) bool { return !trial.Finite(real(a)) || !trial.Finite(imag(a)) }
	over := func(a complex128) bool {
		zero := whole(1).Quo(trial.Exactly(a).Conj()).Near()
		return math.IsInf(real(zero), 0) || math.IsInf(imag(zero), 0)
	}
	astray := func(a complex128) bool { return trial.Exactly(a).Norm().Cmp(big.NewRat(1, 1)) >= 0 }
	switch {
	case slices.Contains(poles, 0):
		return api.ErrZero
	case slices.ContainsFunc(poles, endless):
		return api.ErrNaN
	case slices.ContainsFunc(poles, over):
		return api.ErrOver
	case slices.ContainsFunc(poles, astray):
		return api.ErrUnstable
	}
	return api.OK
}

func TestAllpassErrors(t *testing.T) {
	kinds := slices.Concat(
		list(0.5, complex(0.3, -0.4), 1-0x1p-53, complex(0, 0x1p-1000)),
		trial.Noughts(), trial.Endless(), list(complex(0, nan), complex(infinity, 0)),
		list(least, complex(0, -least), 0x1p-1024, complex(0x1p-1030, least)),
		list(1, -1, 1i, complex(0, -1), complex(1, minus), 2, complex(0.6, 0.8), complex(1, least), greatest, complex(greatest, greatest), complex(-0.8, 0.6), 1+0x1p-52),
	)
	often := map[api.Errno]int{}
	look := func(poles []complex128) {
		t.Helper()
		want := wanted(poles)
		often[want]++
		got, e := proto.Allpass(poles)
		if want == api.OK {
			is(t, "P24.5: Allpass", got, e, mirrored(poles))
			return
		}
		if e != want || !same(got, api.Zpk{}) {
			t.Errorf("Errors: Allpass(%v) = %v, %d, want %d", poles, got, e, want)
		}
	}
	for _, a := range kinds {
		look(list(a))
		for _, b := range kinds {
			look(list(a, b))
			look(list(0.25, a, b))
			look(append(slices.Repeat(list(0.5), api.MaxRoots-2), a, b))
			look(append(slices.Repeat(list(0.5), api.MaxRoots-1), a, b))
		}
	}
	// The gain of these would be beyond the greatest number; that they lie outside is what is wrong.
	look(list(greatest, greatest))
	look(make([]complex128, 25))
	look(slices.Repeat(list(0.5), 1000))
	for _, e := range []api.Errno{api.OK, api.ErrLong, api.ErrZero, api.ErrNaN, api.ErrOver, api.ErrUnstable} {
		if often[e] < 10 {
			t.Errorf("%d came only %d times", e, often[e])
		}
	}
}
