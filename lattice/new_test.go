package lattice_test

import (
	"math/big"
	"slices"
	"testing"

	"quaver/api"
	"quaver/lattice"
	"quaver/poly"
	"quaver/refl"
	"quaver/trial"
)

// refused: does New answer this error, and nothing beside it?
func refused(t *testing.T, ks []complex128, want api.Errno) {
	t.Helper()
	if l, e := lattice.New(ks); e != want || (l == nil) != (want != api.OK) {
		t.Errorf("Errors: New(%d numbers): %v, %d, want %d", len(ks), l, e, want)
	}
}

func TestNew(t *testing.T) {
	mix := trial.Mixer(191)
	for _, n := range counts() {
		for range 20 {
			ks := ladder(&mix, n)
			l := made(t, ks)
			are(t, l.Numbers(), ks, "P18.1: Numbers of New(%x)", ks)
			are(t, l.Back(), make([]complex128, n), "P18.1: Back of New(%x)", ks)
		}
	}
	for _, none := range [][]complex128{nil, {}} {
		if l := made(t, none); len(l.Numbers()) != 0 || len(l.Back()) != 0 {
			t.Error("P18.1: New of none")
		}
	}
	// Any magnitude: 1, above it, and the ends of the format; noughts keep their signs.
	for _, k := range slices.Concat(list(1, -1, 1i, complex(0.6, 0.8), 2, 1e300), trial.Signs(greatest, least), trial.Noughts()) {
		are(t, made(t, list(k, 0.5)).Numbers(), list(k, 0.5), "P18.1: Numbers")
	}
}

func TestErrorsOfNew(t *testing.T) {
	for _, n := range []int{25, 26, 10000} {
		refused(t, make([]complex128, n), api.ErrLong)
	}
	for _, bad := range trial.Endless() {
		for _, n := range []int{1, 2, 3, 24, 25, 26} {
			for _, i := range []int{0, n / 2, n - 1} {
				ks := slices.Repeat(list(0.5), n)
				ks[i] = bad
				want := api.ErrNaN
				if n > api.MaxRoots {
					want = api.ErrLong
				}
				refused(t, ks, want)
			}
		}
	}
}

// ofLike: is Of the lattice of refl.Near's numbers?
func ofLike(t *testing.T, p api.Poly) {
	t.Helper()
	want, fault := refl.Near(p)
	l, e := lattice.Of(p)
	if e != fault || (l == nil) != (fault != api.OK) {
		t.Fatalf("P18.1: Of(%v): %v, %d, want %d", p, l, e, fault)
	}
	are(t, l.Numbers(), want, "P18.1: Numbers of Of(%v)", p)
	are(t, l.Back(), make([]complex128, len(want)), "P18.1: Back of Of(%v)", p)
	if fault == api.OK {
		samples := list(1, 0, 2i, 0)
		are(t, l.Run(samples), newModel(want).run(samples), "P18.1: Run of Of(%v)", p)
	}
}

func TestOf(t *testing.T) {
	p, _ := poly.From(list(0.25, 0.625, 1))
	l, e := lattice.Of(p)
	if e != api.OK || !slices.Equal(l.Numbers(), list(0.5, 0.25)) {
		t.Errorf("P18.1: Of: %v, %d", l, e)
	}
	// The numbers -2/3 and 1/2: each the nearest.
	p, _ = poly.From(list(0.5, -1, 1))
	if l, e := lattice.Of(p); e != api.OK || !slices.Equal(l.Numbers(), list(-2.0/3, 0.5)) {
		t.Errorf("P18.1: Of: %v, %d", l, e)
	}
	// A magnitude above 1 is none the less told; a constant has no numbers.
	ofLike(t, trial.Reals(-2, 1))
	ofLike(t, trial.Reals(7))
	ofLike(t, trial.Sparse(api.MaxRoots, 3, 1))
	mix := trial.Mixer(192)
	for round := range 150 {
		ofLike(t, mix.Poly(6, 1+round%2))
	}
}

func TestErrorsOfOf(t *testing.T) {
	whole := func(x *big.Rat) api.Gauss { return trial.Complex{Re: x, Im: new(big.Rat)}.Gauss() }
	one := trial.Whole(1, 0)
	bad := trial.Sparse(3, 1, 0)
	bad[1].Re.Neg = true
	for _, c := range []struct {
		p    api.Poly
		want api.Errno
	}{
		{trial.Sparse(api.MaxRoots+1, 3, 0), api.ErrLong}, {trial.Sparse(api.MaxRoots+1, 1, 0), api.ErrLong}, {api.Poly{trial.Either(trial.Long())[0], one}, api.ErrLong}, {api.Poly{{}, trial.Either(trial.Long())[3]}, api.ErrLong},
		{api.Poly{{}}, api.ErrForm}, {trial.Reals(1, 2, 0), api.ErrForm}, {bad, api.ErrForm},
		{nil, api.ErrZero}, {api.Poly{}, api.ErrZero},
		{api.Poly{whole(trial.Up(1024)), one}, api.ErrOver}, {api.Poly{whole(trial.Up(9000)), one}, api.ErrOver},
		{trial.Reals(1, 0, 1), api.ErrUnstable}, {trial.Reals(-1, 3, 1), api.ErrUnstable}, {trial.Reals(1, 1, 1), api.ErrUnstable},
	} {
		if l, e := lattice.Of(c.p); l != nil || e != c.want {
			t.Errorf("Errors: Of(%d places): %v, %d, want %d", len(c.p), l, e, c.want)
		}
		if _, e := refl.Near(c.p); e != c.want {
			t.Errorf("Errors: Near(%d places): %d, want %d", len(c.p), e, c.want)
		}
	}
	// The greatest number has a nearest one.
	ofLike(t, api.Poly{whole(trial.True(greatest)), one})
}
