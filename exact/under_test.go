package exact_test

import (
	"math/big"
	"testing"

	"quaver/exact"
	"quaver/trial"
)

// power is x^n, step by step.
func power(x *big.Int, n int) *big.Int {
	all := big.NewInt(1)
	for range n {
		all = product(all, x)
	}
	return all
}

func TestPowers(t *testing.T) {
	mix := trial.Mixer(35)
	for _, x := range []*big.Int{big.NewInt(1), big.NewInt(2), big.NewInt(10), dense(&mix, 3)} {
		list := exact.Powers(x, 7)
		if len(list) != 8 {
			t.Fatalf("the powers up to the seventh are %d", len(list))
		}
		for i, p := range list {
			if p.Value().Cmp(power(x, i)) != 0 {
				t.Errorf("%v to the power of %d is %v", x, i, p.Value())
			}
		}
		if exact.Once(x).Value().Cmp(x) != 0 {
			t.Errorf("%v once is %v", x, exact.Once(x).Value())
		}
	}
	for _, most := range []int{0, -1} {
		if list := exact.Powers(big.NewInt(5), most); len(list) != 1 || list[0].Value().Int64() != 1 {
			t.Errorf("the powers up to %d: %v", most, list)
		}
	}
}

// lowest looks whether num over the product of the powers, of which two are handed in, is the number that it should be, in lowest terms.
func lowest(t *testing.T, num, x, y *big.Int, n, m int) {
	t.Helper()
	was := new(big.Int).Set(num)
	got := exact.Under(num, exact.Powers(x, n)[n], exact.Powers(y, m)[m])
	want := new(big.Rat).SetFrac(was, product(power(x, n), power(y, m)))
	if !trial.Alike(got.Rat(), trial.Told(want)) {
		t.Fatalf("%v over %v^%d %v^%d is %v, want %v", was, x, n, y, m, got.Rat(), want)
	}
	if num.Cmp(was) != 0 {
		t.Fatalf("%v became %v", was, num)
	}
}

func TestUnder(t *testing.T) {
	small := []int64{1, 2, 3, 4, 6, 7, 8, 9, 12, 30, 64, 72, 1 << 40}
	mix := trial.Mixer(36)
	choose := func() *big.Int { return big.NewInt(small[mix.Below(len(small))]) }
	for range 5000 {
		x, y := choose(), choose()
		num := product(power(choose(), mix.Below(6)), power(x, mix.Below(4)))
		switch mix.Below(8) {
		case 0:
			num = new(big.Int)
		case 1:
			x = product(x, dense(&mix, 2))
		case 2:
			num = product(num, dense(&mix, 3))
		case 3:
			x = product(x, y)
		case 4:
			common := dense(&mix, 2)
			x, num = product(x, common), product(num, power(common, mix.Below(4)))
		}
		if mix.Below(2) == 0 {
			num.Neg(num)
		}
		lowest(t, num, x, y, mix.Below(6), mix.Below(4))
	}
	if got := exact.Under(big.NewInt(-6)).Rat(); !trial.Alike(got, trial.Frac(-6, 1)) {
		t.Errorf("-6 over nothing is %v", got)
	}
}

func TestUnderALongPower(t *testing.T) {
	mix := trial.Mixer(37)
	root := product(dense(&mix, 2000), big.NewInt(12))
	top := exact.Powers(root, 12)[12]
	num := product(power(dense(&mix, 2000), 12), big.NewInt(1<<30))
	above, below := exact.Under(num, top).Parts()
	shared := new(big.Int).Quo(num, above)
	if product(shared, above).Cmp(num) != 0 || product(shared, below).Cmp(top.Value()) != 0 || shared.TrailingZeroBits() < 24 {
		t.Errorf("what is in common has %d bits", shared.BitLen())
	}
	if left := exact.Divisor(above, below); left.Cmp(big.NewInt(1)) != 0 {
		t.Errorf("%d bits are still in common", left.BitLen())
	}
	// Nothing is left of the power.
	whole := exact.Under(product(top.Value(), big.NewInt(-5)), top)
	if !trial.Alike(whole.Rat(), trial.Frac(-5, 1)) {
		t.Error("-5 times the power, over the power, is not -5")
	}
}

func TestDenominator(t *testing.T) {
	if den := exact.Denominator(); den.Int64() != 1 {
		t.Errorf("the denominator of no numbers is %v", den)
	}
	mix := trial.Mixer(38)
	for range 500 {
		var list []exact.Number
		want := big.NewInt(1)
		for range 1 + mix.Below(5) {
			r := mix.Rat(1 + mix.Below(2))
			list = append(list, exact.Read(r))
			den := trial.Natural(r.Den)
			shared := new(big.Int).GCD(nil, nil, want, den)
			want.Mul(want, den.Quo(den, shared))
		}
		den := exact.Denominator(list...)
		if den.Cmp(want) != 0 {
			t.Fatalf("the denominator of %v is %v, want %v", list, den, want)
		}
		for _, x := range list {
			was := x.Rat()
			raised := x.Raise(den)
			if new(big.Rat).SetFrac(raised, den).Cmp(trial.Value(was)) != 0 {
				t.Fatalf("%v times %v is %v", was, den, raised)
			}
			raised.SetInt64(77) // in memory of its own
			if !trial.Alike(x.Rat(), was) || den.Cmp(want) != 0 {
				t.Fatalf("%v became %v", was, x.Rat())
			}
		}
	}
}

func TestParts(t *testing.T) {
	a, b := exact.ReadComplex(trial.Whole(1, -2)), exact.ReadComplex(trial.Fraction(3, 4, 5).Gauss())
	all := exact.Parts(a, b)
	if len(all) != 4 || len(exact.Parts()) != 0 {
		t.Fatalf("%d parts", len(all))
	}
	for i, want := range []exact.Number{a.Re, a.Im, b.Re, b.Im} {
		if exact.Cmp(all[i], want) != 0 {
			t.Errorf("part %d is %v, want %v", i, all[i].Rat(), want.Rat())
		}
	}
}
