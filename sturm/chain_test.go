package sturm_test

import (
	"slices"
	"testing"

	"quaver/api"
	"quaver/sturm"
	"quaver/trial"
)

func TestChainExamples(t *testing.T) {
	for _, c := range []struct {
		p    api.Poly
		want []api.Poly
		e    api.Errno
	}{
		{trial.Reals(-2, 0, 1), []api.Poly{trial.Reals(-2, 0, 1), trial.Reals(0, 2), trial.Reals(2)}, api.OK},
		{trial.Reals(0, 0, 1), []api.Poly{trial.Reals(0, 0, 1), trial.Reals(0, 2)}, api.OK},
		{trial.Reals(5), []api.Poly{trial.Reals(5)}, api.OK},
		{trial.Reals(-5), []api.Poly{trial.Reals(-5)}, api.OK},
		{trial.Reals(3, -7), []api.Poly{trial.Reals(3, -7), trial.Reals(-7)}, api.OK},
		{trial.Lines(trial.Fraction(0, 1, 1)), nil, api.ErrForm},
		{nil, nil, api.ErrZero},
		// Steps that leap over degrees.
		{trial.Reals(1, 0, 0, 0, 0, 1), []api.Poly{trial.Reals(1, 0, 0, 0, 0, 1), trial.Reals(0, 0, 0, 0, 5), trial.Reals(-1)}, api.OK},
		{trial.Sparse(24, 0, 0), []api.Poly{trial.Sparse(24, 0, 0), trial.Multiplied(trial.Reals(24), trial.Sparse(23, 0, 0))}, api.OK},
	} {
		if list, e := sturm.Chain(c.p); e != c.e || !trial.AlikePolys(list, c.want) {
			t.Errorf("P11.1: Chain(%v) = %v, %d, want %v", c.p, list, e, c.want)
		}
	}
}

// realPoly is a polynomial of real coefficients, of at least one place.
func realPoly(mix *trial.Mixer, places, limbs int) api.Poly {
	for {
		p := mix.Poly(places, limbs)
		for i := range p {
			p[i].Im = trial.Frac(0, 1)
			if mix.Below(5) == 0 {
				p[i].Re = trial.Frac(0, 1)
			}
		}
		if p = trial.ValuePoly(p).Poly(); len(p) > 0 {
			return p
		}
	}
}

func TestChain(t *testing.T) {
	mix := trial.Mixer(1)
	for round := range 150 {
		p := realPoly(&mix, 7, 1+round%2)
		switch round % 4 {
		case 1: // roots that come several times
			p = trial.Multiplied(p, realPoly(&mix, 3, 1), p)
		case 2:
			p = trial.Lines(withConj(mix.Places(mix.Below(6)))...)
		}
		want := polys(euclid(trial.ValuePoly(p)))
		if list, e := sturm.Chain(p); e != api.OK || !trial.AlikePolys(list, want) {
			t.Fatalf("P11.1: Chain(%v) = %v, %d, want %v", p, list, e, want)
		}
	}
}

func TestChainAtTheLimits(t *testing.T) {
	var list []trial.Complex
	for i := range int64(api.MaxRoots) {
		list = append(list, trial.Fraction(3*i*i-40*i, 0, i+1))
	}
	p := trial.Lines(list...)
	want := polys(euclid(trial.ValuePoly(p)))
	if got, e := sturm.Chain(p); e != api.OK || !trial.AlikePolys(got, want) || len(got) != api.MaxRoots+1 {
		t.Errorf("P11.1: Chain of 24 roots has %d polynomials, %d", len(got), e)
	}
	full := trial.Ones(api.MaxLimbs, 1<<64-1)
	long := api.Gauss{Re: api.Rat{Num: full, Den: []uint64{1}}, Im: trial.Frac(0, 1)}
	p = api.Poly{trial.Whole(1, 0), long, long}
	want = polys(euclid(trial.ValuePoly(p)))
	if got, e := sturm.Chain(p); e != api.OK || !trial.AlikePolys(got, want) {
		t.Errorf("P11.1: Chain at MaxLimbs has %d polynomials, %d", len(got), e)
	}
}

func TestLastOfTheChain(t *testing.T) {
	mix := trial.Mixer(2)
	for range 40 {
		once := unlike(withConj(mix.Places(1 + mix.Below(5))))
		var all, again []trial.Complex
		for _, z := range once {
			n := mix.Below(3)
			if z.Im.Sign() != 0 {
				n = 1 // as often as its conjugate
			}
			all, again = append(all, times(z, n+1)...), append(again, times(z, n)...)
		}
		if len(all) > api.MaxRoots {
			continue
		}
		list, e := sturm.Chain(trial.Lines(all...))
		if e != api.OK || len(list) == 0 {
			t.Fatalf("P11.1: Chain of the roots %v: %d", all, e)
		}
		last := trial.ValuePoly(list[len(list)-1]).Monic().Poly()
		if !trial.AlikePoly(last, trial.Lines(again...)) {
			t.Fatalf("P11.1: the last one of the chain of the roots %v is %v", all, last)
		}
	}
}

func TestLineExamples(t *testing.T) {
	for _, c := range []struct{ p, want api.Poly }{
		{trial.Lines(trial.Fraction(0, 1, 1)), api.Poly{trial.Whole(1, -1), trial.Whole(-1, 1)}},
		{trial.Reals(1, 1), trial.Reals(2)},
		{trial.Reals(1, 0, 1), trial.Reals(2, 0, -2)},
		{trial.Reals(7), trial.Reals(7)},
		{api.Poly{trial.Whole(2, -3)}, api.Poly{trial.Whole(2, -3)}},
		{trial.Reals(1, 2, 1), trial.Reals(4)},
		{trial.Lines(times(trial.Fraction(-1, 0, 1), 24)...), trial.Reals(1 << 24)},
		{trial.Reals(0, 1), api.Poly{trial.Whole(1, 0), trial.Whole(0, 1)}},
		{trial.Reals(-1, 1), api.Poly{trial.Whole(0, 0), trial.Whole(0, 2)}},
	} {
		if q, e := sturm.Line(c.p); e != api.OK || !trial.AlikePoly(q, c.want) {
			t.Errorf("P11.3: Line(%v) = %v, %d, want %v", c.p, q, e, c.want)
		}
	}
}

func TestLine(t *testing.T) {
	mix := trial.Mixer(3)
	for round := range 200 {
		p := mix.Poly(7, 1+round%3)
		again := mix.Below(4)
		for range again * (round % 2) {
			p = trial.Multiplied(p, trial.Reals(1, 1))
		}
		if len(p) == 0 {
			continue
		}
		want := laid(trial.ValuePoly(p)).Poly()
		if q, e := sturm.Line(p); e != api.OK || !trial.AlikePoly(q, want) {
			t.Fatalf("P11.3: Line(%v) = %v, %d, want %v", p, q, e, want)
		}
	}
}

func TestDegreeAndRootsOfLine(t *testing.T) {
	mix := trial.Mixer(4)
	for range 60 {
		list := append(mix.Places(mix.Below(6)), times(trial.Fraction(-1, 0, 1), mix.Below(4))...)
		at := 0
		for _, z := range list {
			if z.Add(trial.Fraction(1, 0, 1)).Nought() {
				at++
			}
		}
		q, e := sturm.Line(trial.Lines(list...))
		if e != api.OK || len(q)-1 != len(list)-at {
			t.Fatalf("P11.3: Line of the roots %v has %d places, %d", list, len(q), e)
		}
		// At x = i (1 - z) / (1 + z) there is a root for each z but -1.
		for _, z := range list {
			one := trial.Fraction(1, 0, 1)
			if one.Add(z).Nought() {
				continue
			}
			x := trial.Fraction(0, 1, 1).Mul(one.Sub(z)).Quo(one.Add(z))
			sum := trial.Fraction(0, 0, 1)
			for _, c := range slices.Backward(trial.ValuePoly(q)) {
				sum = sum.Mul(x).Add(c)
			}
			if !sum.Nought() {
				t.Fatalf("P11.3: Line of the roots %v is not nought where %v lies", list, z)
			}
		}
	}
}

func TestLineAtTheLimits(t *testing.T) {
	full := trial.Ones(api.MaxLimbs, 1<<64-1)
	long := api.Gauss{Re: api.Rat{Num: full, Den: []uint64{1}}, Im: api.Rat{Neg: true, Num: []uint64{1}, Den: append(make([]uint64, api.MaxLimbs-1), 1)}}
	var wide api.Poly
	for i := range int64(api.MaxRoots + 1) {
		wide = append(wide, trial.Fraction(5-i*i, 3*i-20, 2*i+1).Gauss())
	}
	for _, p := range []api.Poly{slices.Repeat(api.Poly{long}, 4), wide} {
		want := laid(trial.ValuePoly(p)).Poly()
		if q, e := sturm.Line(p); e != api.OK || !trial.AlikePoly(q, want) {
			t.Errorf("P11.3: Line at the limits, of %d places, has %d places, %d", len(p), len(q), e)
		}
	}
}
