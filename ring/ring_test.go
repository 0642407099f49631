package ring_test

import (
	"math/big"
	"testing"

	"quaver/api"
	"quaver/exact"
	"quaver/modular"
	"quaver/ring"
	"quaver/trial"
)

// divisors are the primes by which a common divisor is put together, in their order.
func divisors(n int) []int64 {
	var list []int64
	f := modular.First()
	for range n {
		list = append(list, int64(f.Prime()))
		f = f.Next()
	}
	return list
}

// halves is a + bi with a * a + b * b = the first prime: it is nought where i stands for one root of -1 and not for the other.
func halves() (int64, int64) {
	f := modular.First()
	above, a := new(big.Int).SetUint64(f.Prime()), new(big.Int).SetUint64(f.Root())
	for a.BitLen() > 31 {
		above, a = a, new(big.Int).Mod(above, a)
	}
	b := new(big.Int).Sub(new(big.Int).SetUint64(f.Prime()), new(big.Int).Mul(a, a))
	return a.Int64(), b.Sqrt(b).Int64()
}

// lines is the product of all z - r.
func lines(list ...api.Gauss) api.Poly {
	all := trial.ValuePoly(trial.Reals(1))
	for _, r := range list {
		minus := trial.ValueGauss(trial.Whole(0, 0)).Sub(trial.ValueGauss(r))
		all = all.Mul(trial.Line{minus, trial.ValueGauss(trial.Whole(1, 0))})
	}
	return all.Poly()
}

func TestPrimesThatAreNotFit(t *testing.T) {
	d := divisors(4)
	a, b := halves()
	if new(big.Int).Add(new(big.Int).Mul(big.NewInt(a), big.NewInt(a)), new(big.Int).Mul(big.NewInt(b), big.NewInt(b))).Cmp(big.NewInt(d[0])) != 0 {
		t.Fatalf("%d and %d are not the halves of %d", a, b, d[0])
	}
	under := func(re, im api.Rat) api.Gauss { return api.Gauss{Re: re, Im: im} }
	over := func(n int64, d int64) api.Gauss { return under(trial.Frac(n, uint64(d)), trial.Frac(0, 1)) }
	above := trial.Frac(d[0]+1, uint64(d[0]))
	wide := api.Gauss{Re: trial.Sum(trial.Up(700), trial.Up(0)), Im: trial.Sum(trial.Up(-300))}
	times := func(p, q api.Poly) api.Poly { return trial.ValuePoly(p).Mul(trial.ValuePoly(q)).Poly() }
	for _, c := range []struct {
		name    string
		p, q, g api.Poly
	}{
		{"equal modulo the first prime", lines(trial.Whole(1, 0)), lines(trial.Whole(1+d[0], 0)), trial.Reals(1)},
		{"one root too many modulo the first prime", lines(trial.Whole(1, 0), trial.Whole(2, 0)), lines(trial.Whole(1, 0), trial.Whole(2+d[0], 0)), trial.Reals(-1, 1)},
		{"one root too many modulo the second prime", lines(wide, trial.Whole(2, 0), trial.Whole(9, 0)), lines(wide, trial.Whole(2+d[1], 0), trial.Whole(5, 0)), lines(wide)},
		{"one root too many modulo the fourth prime", lines(wide, trial.Whole(2, 0), trial.Whole(9, 0)), lines(wide, trial.Whole(2+d[3], 0), trial.Whole(5, 0)), lines(wide)},
		{"last coefficient nought modulo the first prime", times(trial.Reals(1, d[0]), lines(wide)), times(trial.Reals(2, d[0]), lines(wide)), lines(wide)},
		{"constant modulo the first prime", trial.Reals(2, d[0]), times(trial.Reals(2, d[0]), lines(wide)), api.Poly{over(2, d[0]), trial.Whole(1, 0)}},
		{"a denominator is the first prime", times(api.Poly{over(1, d[0]), trial.Whole(1, 0)}, lines(wide)), lines(wide, wide), lines(wide)},
		{"an imaginary denominator is the first prime", times(api.Poly{under(trial.Frac(1, 1), trial.Frac(1, uint64(d[0]))), trial.Whole(1, 0)}, lines(wide)), lines(wide, wide), lines(wide)},
		{"nought modulo the first prime", times(trial.Reals(d[0], d[0]), trial.Reals(2)), lines(wide, trial.Whole(-1, 0)), trial.Reals(1, 1)},
		{"nought modulo the first prime, below nought", trial.Reals(-d[0], -d[0]), lines(wide, trial.Whole(-1, 0)), trial.Reals(1, 1)},
		{"the first prime under imaginary parts alone", api.Poly{under(trial.Frac(0, 1), above), trial.Whole(0, 0), under(trial.Frac(0, 1), trial.Frac(1, uint64(d[0]))), trial.Whole(1, 0)}, lines(trial.Whole(0, 1), trial.Whole(3, 0)), lines(trial.Whole(0, 1))},
		{"the first prime under real parts alone", api.Poly{under(above, trial.Frac(0, 1)), trial.Whole(0, 0), under(trial.Frac(1, uint64(d[0])), trial.Frac(0, 1)), trial.Whole(0, -1)}, lines(trial.Whole(0, 1), trial.Whole(3, 0)), lines(trial.Whole(0, 1))},
		{"equal for one root of -1", lines(trial.Whole(1, 0)), lines(trial.Whole(1+a, b)), trial.Reals(1)},
		{"equal for the other root of -1", lines(trial.Whole(1, 0)), lines(trial.Whole(1+a, -b)), trial.Reals(1)},
		{"one root too many for one root of -1", lines(trial.Whole(1, 0), wide), lines(trial.Whole(1+a, b), wide), lines(wide)},
		{"one root too many for the other", lines(trial.Whole(1, 0), wide), lines(trial.Whole(1+a, -b), wide), lines(wide)},
		{"last coefficient nought for one root of -1", times(api.Poly{trial.Whole(1, 0), trial.Whole(a, b)}, lines(wide)), lines(wide, trial.Whole(3, 0)), lines(wide)},
		{"last coefficient nought for the other", times(api.Poly{trial.Whole(1, 0), trial.Whole(a, -b)}, lines(wide)), lines(wide, trial.Whole(3, 0)), lines(wide)},
	} {
		for _, pair := range [][2]api.Poly{{c.p, c.q}, {c.q, c.p}} {
			if g := ring.Gcd(ring.Read(pair[0]), ring.Read(pair[1])).Form(); !trial.AlikePoly(g, c.g) {
				t.Errorf("P6.4: %s: Gcd = %v, want %v", c.name, g, c.g)
			}
		}
	}
}

func TestBeyondTheLimits(t *testing.T) {
	// Degrees, and numbers, beyond what may be handed in to layer 6.
	for _, c := range []struct{ degree, limbs int }{{api.MaxDegree + 20, 2}, {10, api.MaxLimbs / 8}} {
		roots := make([]exact.Complex, c.degree)
		for i := range roots {
			roots[i] = exact.ReadComplex(api.Gauss{Re: trial.Frac(int64(i), 1), Im: trial.Sum(trial.Up(-64 * c.limbs))})
		}
		p, q := ring.Roots(roots), ring.Roots(roots[2:8])
		if g := ring.Gcd(p, q); !trial.AlikePoly(g.Form(), q.Form()) {
			t.Errorf("Gcd of %d places is of %d", len(p), len(g))
		}
		if a, rest := ring.QuoRem(p, q); len(rest) > 0 || !trial.AlikePoly(ring.Mul(a, q).Form(), p.Form()) {
			t.Errorf("QuoRem of %d places leaves %d", len(p), len(rest))
		}
	}
}

func TestWholeAndConj(t *testing.T) {
	mix := trial.Mixer(22)
	for range 300 {
		p := mix.Poly(6, 2)
		q, times := ring.Whole(ring.Read(p))
		least := big.NewInt(1)
		for i, c := range p {
			for _, den := range []*big.Int{trial.Natural(c.Re.Den), trial.Natural(c.Im.Den)} {
				shared := new(big.Int).GCD(nil, nil, least, den)
				least.Mul(least, den.Quo(den, shared))
			}
			if want := exact.ReadComplex(c).Mul(times.Complex()).Gauss(); !trial.AlikeGauss(q[i].Gauss(), want) {
				t.Fatalf("Whole(%v) = %v times %v", p, q.Form(), times.Rat())
			}
		}
		if num, den := times.Parts(); num.Cmp(least) != 0 || den.Cmp(big.NewInt(1)) != 0 || len(q) != len(p) {
			t.Fatalf("Whole(%v): times %v, want %v", p, times.Rat(), least)
		}
		for i, c := range ring.Conj(ring.Read(p)) {
			if want := trial.ValueGauss(p[i]).Conj().Gauss(); !trial.AlikeGauss(c.Gauss(), want) {
				t.Fatalf("Conj(%v) has %v at %d", p, c.Gauss(), i)
			}
		}
	}
}

func TestSplit(t *testing.T) {
	mix := trial.Mixer(23)
	for range 300 {
		d := mix.Poly(3, 1)
		p, q := trial.Multiplied(mix.Poly(4, 1), d), trial.Multiplied(mix.Poly(4, 1), d)
		g, a, b := ring.Split(ring.Read(p), ring.Read(q))
		if !trial.AlikePoly(ring.Mul(g, a).Form(), p) || !trial.AlikePoly(ring.Mul(g, b).Form(), q) {
			t.Fatalf("Split(%v, %v) = %v, %v, %v", p, q, g.Form(), a.Form(), b.Form())
		}
		if want := trial.ValuePoly(p).Gcd(trial.ValuePoly(q)).Poly(); !trial.AlikePoly(g.Form(), want) {
			t.Fatalf("Split(%v, %v): common is %v, want %v", p, q, g.Form(), want)
		}
	}
}
