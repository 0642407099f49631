package sturm_test

import (
	"math/big"
	"slices"
	"testing"

	"quaver/api"
	"quaver/sturm"
	"quaver/trial"
)

func TestRealExamples(t *testing.T) {
	for _, c := range []struct {
		p    api.Poly
		want int
	}{
		{trial.Reals(-2, 0, 1), 2}, {trial.Reals(0, 0, 1), 1}, {trial.Reals(1, 0, 1), 0}, {trial.Reals(5), 0}, {trial.Reals(0, 5), 1}, {trial.Reals(2, 0, -1), 2},
		{trial.Sparse(24, -1, 0), 2}, {trial.Sparse(24, 1, 0), 0}, {trial.Sparse(23, 1, 0), 1}, {trial.Sparse(24, 0, 0), 1}, {trial.Reals(0, -1, 0, 0, 0, 1), 3},
		{trial.Lines(times(trial.Fraction(1, 0, 3), 24)...), 1},
		{trial.Lines(plain(trial.Beside1(1)), plain(trial.Beside1(-1)), plain(trial.Beside1(0))), 3},
		{trial.Lines(trial.Complex{Re: trial.Up(0), Im: trial.Up(-1000)}, trial.Complex{Re: trial.Up(0), Im: trial.Down(-1000)}), 0},
	} {
		if n, e := sturm.Real(c.p); n != c.want || e != api.OK {
			t.Errorf("P11.2: Real(%v) = %d, %d, want %d", c.p, n, e, c.want)
		}
	}
}

func TestBetweenExamples(t *testing.T) {
	low, high := trial.Frac(-1, 1), trial.Frac(1, 1)
	twice := trial.Reals(0, 0, -1, 1)
	for _, c := range []struct {
		p    api.Poly
		a, b api.Rat
		want int
		e    api.Errno
	}{
		{trial.Reals(-2, 0, 1), trial.Frac(0, 1), trial.Frac(2, 1), 1, api.OK},
		{trial.Reals(0, -1, 1), trial.Frac(0, 1), trial.Frac(1, 1), 1, api.OK},
		{twice, low, trial.Frac(0, 1), 1, api.OK}, {twice, trial.Frac(0, 1), high, 1, api.OK}, {twice, low, high, 2, api.OK}, {twice, low, low, 0, api.OK}, {twice, high, high, 0, api.OK}, {twice, trial.Frac(0, 1), trial.Frac(0, 1), 0, api.OK}, {twice, trial.Frac(1, 2), high, 1, api.OK}, {twice, high, trial.Frac(2, 1), 0, api.OK},
		{trial.Reals(0, 1), high, trial.Frac(0, 1), 0, api.ErrArg}, {trial.Reals(0, 1), trial.Frac(0, 1), trial.Frac(0, 1), 0, api.OK},
		{trial.Reals(-4), low, high, 0, api.OK}, {trial.Reals(-4), high, low, 0, api.ErrArg},
		{trial.Reals(1, 0, 1), low, high, 0, api.OK},
		{trial.Reals(-2, 0, 1), trial.Frac(-2, 1), trial.Frac(2, 1), 2, api.OK}, {trial.Reals(2, 0, -1), trial.Frac(7, 5), trial.Frac(17, 12), 1, api.OK}, {trial.Reals(2, 0, -1), trial.Frac(17, 12), trial.Frac(3, 2), 0, api.OK},
		{trial.Lines(times(trial.Fraction(1, 0, 3), 24)...), trial.Frac(1, 3), trial.Frac(1, 2), 0, api.OK}, {trial.Lines(times(trial.Fraction(1, 0, 3), 24)...), trial.Frac(1, 4), trial.Frac(1, 3), 1, api.OK},
		{trial.Reals(-1, 1), trial.Told(trial.Beside1(-1)), trial.Told(trial.Beside1(1)), 1, api.OK}, {trial.Reals(-1, 1), trial.Frac(-9, 1), trial.Told(trial.Beside1(-1)), 0, api.OK}, {trial.Reals(-1, 1), trial.Told(trial.Beside1(1)), trial.Frac(9, 1), 0, api.OK}, {trial.Reals(-1, 1), trial.Told(trial.Beside1(1)), trial.Told(trial.Beside1(-1)), 0, api.ErrArg},
	} {
		if n, e := sturm.Between(c.p, c.a, c.b); n != c.want || e != c.e {
			t.Errorf("P11.2: Between(%v, %v, %v) = %d, %d, want %d, %d", c.p, c.a, c.b, n, e, c.want, c.e)
		}
	}
}

// mark is a root's real part, one beside it, or another number.
func mark(mix *trial.Mixer, list []trial.Complex) *big.Rat {
	x := big.NewRat(int64(mix.Below(41)-20), int64(1+mix.Below(6)))
	if len(list) == 0 || mix.Below(4) == 0 {
		return x
	}
	x.Set(list[mix.Below(len(list))].Re)
	if mix.Below(3) == 0 {
		x.Add(x, trial.Down(-2000))
	}
	if mix.Below(3) == 0 {
		x.Add(x, trial.Up(-2001))
	}
	return x
}

func TestRealAndBetweenOfRoots(t *testing.T) {
	mix := trial.Mixer(11)
	for range 300 {
		list := withConj(mix.Places(mix.Below(9)))
		p := trial.Multiplied(trial.Lines(list...), trial.Reals(int64(mix.Below(2)*2-1)))
		if n, e := sturm.Real(p); n != between(list, nil, nil) || e != api.OK {
			t.Fatalf("P11.2: Real of the roots %v: %d, %d", list, n, e)
		}
		a, b := mark(&mix, list), mark(&mix, list)
		want, fault := between(list, a, b), api.OK
		if a.Cmp(b) > 0 {
			want, fault = 0, api.ErrArg
		}
		if n, e := sturm.Between(p, trial.Told(a), trial.Told(b)); n != want || e != fault {
			t.Fatalf("P11.2: Between of the roots %v, from %v up to %v: %d, %d, want %d, %d", list, a, b, n, e, want, fault)
		}
	}
}

func TestRealAndBetweenByTheChain(t *testing.T) {
	mix := trial.Mixer(12)
	for round := range 250 {
		p := realPoly(&mix, 9, 1+round%2)
		if round%3 == 0 {
			p = trial.Multiplied(p, realPoly(&mix, 3, 1), p)
		}
		chain := euclid(trial.ValuePoly(p))
		far := bound(chain)
		if n, e := sturm.Real(p); e != api.OK || n != changes(chain, new(big.Rat).Neg(far))-changes(chain, far) {
			t.Fatalf("P11.2: Real(%v) = %d, %d", p, n, e)
		}
		a, b := trial.Value(mix.Rat(1)), trial.Value(mix.Rat(1))
		if a.Cmp(b) > 0 {
			a, b = b, a
		}
		last := chain[len(chain)-1]
		if value(last, a).Sign() == 0 || value(last, b).Sign() == 0 {
			continue // the chain itself does not tell about roots that come several times
		}
		if n, e := sturm.Between(p, trial.Told(a), trial.Told(b)); e != api.OK || n != changes(chain, a)-changes(chain, b) {
			t.Fatalf("P11.2: Between(%v, %v, %v) = %d, %d", p, a, b, n, e)
		}
	}
}

func TestBetweenOfLongNumbers(t *testing.T) {
	full := trial.Ones(api.MaxLimbs, 1<<64-1)
	even := append([]uint64{1<<64 - 2}, full[1:]...)
	above, below := api.Rat{Num: full, Den: even}, api.Rat{Num: even, Den: full} // beside 1
	whole, least := api.Rat{Num: full, Den: []uint64{1}}, api.Rat{Neg: true, Num: full, Den: []uint64{1}}
	small := api.Rat{Num: []uint64{1}, Den: full}
	third := api.Rat{Num: trial.Ones(api.MaxLimbs, 0x5555555555555555), Den: append(make([]uint64, api.MaxLimbs-1), 1<<63)} // 2/3, nearly
	spread := trial.Lines(trial.Fraction(0, 0, 1), trial.Fraction(1, 0, 1), trial.Fraction(1, 0, 1), trial.Fraction(-5, 0, 1), trial.Fraction(9, 0, 2))
	var wide []trial.Complex
	for i := range int64(api.MaxRoots) {
		wide = append(wide, trial.Fraction(i-11, 0, 1))
	}
	for _, c := range []struct {
		p    api.Poly
		a, b api.Rat
		want int
		e    api.Errno
	}{
		{spread, least, whole, 4, api.OK}, {spread, whole, least, 0, api.ErrArg}, {spread, least, small, 2, api.OK}, {spread, small, whole, 2, api.OK}, {spread, below, above, 1, api.OK}, {spread, above, whole, 1, api.OK}, {spread, small, below, 0, api.OK}, {spread, above, below, 0, api.ErrArg}, {spread, above, above, 0, api.OK},
		{trial.Lines(wide...), least, whole, 24, api.OK}, {trial.Lines(wide...), least, third, 12, api.OK}, {trial.Lines(wide...), third, third, 0, api.OK}, {trial.Lines(wide...), third, whole, 12, api.OK},
		{trial.Lines(plain(trial.Value(whole)), trial.Fraction(-1, 0, 1)), least, whole, 2, api.OK}, {trial.Lines(plain(trial.Value(whole)), trial.Fraction(-1, 0, 1)), above, whole, 1, api.OK},
		{trial.Lines(plain(trial.Value(above))), below, above, 1, api.OK}, {trial.Lines(plain(trial.Value(above))), above, whole, 0, api.OK}, {trial.Lines(plain(trial.Value(above))), below, below, 0, api.OK},
	} {
		if n, e := sturm.Between(c.p, c.a, c.b); n != c.want || e != c.e {
			t.Errorf("P11.2: Between of degree %d and long numbers: %d, %d, want %d, %d", len(c.p)-1, n, e, c.want, c.e)
		}
	}
}

func TestOnCircleExamples(t *testing.T) {
	for _, c := range []struct {
		p    api.Poly
		want int
	}{
		{trial.Reals(1, 0, 1), 2}, {trial.Reals(1, 2, 1), 1}, {trial.Reals(-1, 0, 0, 0, 1), 4}, {trial.Reals(-2, 0, 1), 0}, {trial.Reals(0, 1), 0}, {trial.Reals(9), 0}, {trial.Reals(1, 1), 1}, {trial.Reals(-1, 1), 1},
		{trial.Lines(times(trial.Fraction(-1, 0, 1), 24)...), 1}, {trial.Sparse(24, -1, 0), 24}, {trial.Sparse(24, 0, 1), 24}, {trial.Sparse(23, 1, 0), 23}, {trial.Sparse(24, 2, 0), 0},
		{trial.Multiplied(trial.Reals(1, 1, 1), trial.Reals(2, -5, 2)), 2},
		{trial.Lines(trial.Unit(1, 2), trial.Unit(1, 2), trial.Unit(1, 2).Conj(), trial.Fraction(-1, 0, 1), trial.Fraction(3, 0, 1)), 3},
		{trial.Lines(trial.Unit(1, 2).Stretched(trial.Beside1(1)), trial.Unit(1, 2).Stretched(trial.Beside1(-1))), 0},
		{trial.Lines(plain(trial.Beside1(1)), plain(trial.Beside1(1)).Mirror(), trial.Fraction(1, 0, 1)), 1},
	} {
		if n, e := sturm.OnCircle(c.p); n != c.want || e != api.OK {
			t.Errorf("P11.4: OnCircle(%v) = %d, %d, want %d", c.p, n, e, c.want)
		}
	}
}

func TestUpperExamples(t *testing.T) {
	up, down := trial.Complex{Re: trial.Up(3), Im: trial.Up(-1000)}, trial.Complex{Re: trial.Up(3), Im: trial.Down(-1001)}
	for _, c := range []struct {
		p    api.Poly
		want [3]int
	}{
		{trial.Reals(1, 0, 1), [3]int{1, 0, 1}}, {trial.Lines(times(trial.Fraction(0, 1, 1), 2)...), [3]int{2, 0, 0}}, {trial.Reals(0, 0, 0, 1), [3]int{0, 3, 0}}, {trial.Reals(7), [3]int{}}, {api.Poly{trial.Whole(0, -7)}, [3]int{}},
		{trial.Sparse(24, 1, 0), [3]int{12, 0, 12}}, {trial.Sparse(24, -1, 0), [3]int{11, 2, 11}}, {trial.Sparse(24, 0, 1), [3]int{12, 0, 12}}, {trial.Sparse(2, 0, 1), [3]int{1, 0, 1}}, {trial.Sparse(3, 0, 1), [3]int{1, 0, 2}}, {trial.Sparse(3, 0, -1), [3]int{2, 0, 1}},
		{trial.Lines(up), [3]int{1, 0, 0}}, {trial.Lines(down), [3]int{0, 0, 1}}, {trial.Lines(up, down), [3]int{1, 0, 1}}, {trial.Lines(up, up, up.Conj(), down), [3]int{2, 0, 2}}, {trial.Lines(up, up, trial.Fraction(8, 0, 1), trial.Fraction(8, 0, 1), down), [3]int{2, 2, 1}},
		{trial.Lines(times(up, 5)...), [3]int{5, 0, 0}}, {trial.Lines(times(trial.Fraction(-1, -1, 3), 24)...), [3]int{0, 0, 24}}, {trial.Lines(times(trial.Fraction(-1, 0, 3), 24)...), [3]int{0, 24, 0}},
	} {
		if got, e := upper(c.p); got != c.want || e != api.OK {
			t.Errorf("P11.5: Upper(%v) = %v, %d, want %v", c.p, got, e, c.want)
		}
	}
}

func TestSidesOfRoots(t *testing.T) {
	mix := trial.Mixer(13)
	for round := range 300 {
		most := 8
		if round%40 == 0 {
			most = api.MaxRoots
		}
		list := mix.Places(mix.Below(most + 1))
		factor := trial.ValueGauss(mix.Gauss(1))
		if factor.Nought() {
			factor = trial.Fraction(0, -3, 1)
		}
		p := trial.Multiplied(trial.Lines(list...), api.Poly{factor.Gauss()})
		if got, e := upper(p); got != sides(list) || e != api.OK {
			t.Fatalf("P11.5: Upper of the roots %v: %v, %d, want %v", list, got, e, sides(list))
		}
		if n, e := sturm.OnCircle(p); n != onCircle(list) || e != api.OK {
			t.Fatalf("P11.4: OnCircle of the roots %v: %d, %d, want %d", list, n, e, onCircle(list))
		}
	}
}

func TestUpperOfTurned(t *testing.T) {
	// The conjugates' roots lie the other way round; those of a product are all of them.
	mix := trial.Mixer(14)
	for range 100 {
		p, q := mix.Poly(8, 2), mix.Poly(5, 1)
		if len(p) == 0 || len(q) == 0 {
			continue
		}
		conj := trial.ValuePoly(p)
		for i, c := range conj {
			conj[i] = c.Conj()
		}
		a, e := upper(p)
		b, f := upper(conj.Poly())
		if e != api.OK || f != api.OK || b != [3]int{a[2], a[1], a[0]} || a[0]+a[1]+a[2] != len(p)-1 {
			t.Fatalf("P11.5: Upper(%v) = %v, %d, of the conjugates %v, %d", p, a, e, b, f)
		}
		c, e := upper(q)
		d, f := upper(trial.Multiplied(p, q))
		if e != api.OK || f != api.OK || d != [3]int{a[0] + c[0], a[1] + c[1], a[2] + c[2]} {
			t.Fatalf("P11.5: Upper of %v and %v: %v and %v, of their product %v", p, q, a, c, d)
		}
	}
}

func TestLongCoefficients(t *testing.T) {
	full := trial.Ones(api.MaxLimbs, 1<<64-1)
	long := api.Gauss{Re: api.Rat{Num: full, Den: []uint64{1}}, Im: trial.Frac(0, 1)}
	turned := api.Gauss{Re: trial.Frac(0, 1), Im: long.Re}
	for _, c := range []struct {
		p      api.Poly
		sides  [3]int
		circle int
	}{
		{slices.Repeat(api.Poly{long}, api.MaxRoots+1), [3]int{12, 0, 12}, 24},
		{api.Poly{long, trial.Whole(0, 1)}, [3]int{1, 0, 0}, 0}, {api.Poly{trial.Whole(0, 1), long}, [3]int{0, 0, 1}, 0}, {api.Poly{long, turned}, [3]int{1, 0, 0}, 1}, {api.Poly{turned, turned, turned}, [3]int{1, 0, 1}, 2}, {api.Poly{long, long}, [3]int{0, 1, 0}, 1},
	} {
		if got, e := upper(c.p); got != c.sides || e != api.OK {
			t.Errorf("P11.5: Upper at MaxLimbs: %v, %d, want %v", got, e, c.sides)
		}
		if n, e := sturm.OnCircle(c.p); n != c.circle || e != api.OK {
			t.Errorf("P11.4: OnCircle at MaxLimbs: %d, %d, want %d", n, e, c.circle)
		}
	}
	if n, e := sturm.Real(slices.Repeat(api.Poly{long}, api.MaxRoots)); n != 1 || e != api.OK {
		t.Errorf("P11.2: Real at MaxLimbs: %d, %d", n, e)
	}
}
