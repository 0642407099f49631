package exact_test

import (
	"math/big"
	"testing"

	"quaver/exact"
	"quaver/trial"
)

// same looks whether Divisor answers what the library does, in either order and with either sign, and leaves its numbers as they are.
func same(t *testing.T, name string, x, y *big.Int) {
	t.Helper()
	was, other := new(big.Int).Set(x), new(big.Int).Set(y)
	want := new(big.Int).GCD(nil, nil, x, y)
	if got := exact.Divisor(x, y); got.Cmp(want) != 0 {
		t.Errorf("%s: the common divisor has %d bits, want %d", name, got.BitLen(), want.BitLen())
	}
	minus := new(big.Int).Neg(x)
	if got := exact.Divisor(y, minus); got.Cmp(want) != 0 {
		t.Errorf("%s, turned round: the common divisor has %d bits, want %d", name, got.BitLen(), want.BitLen())
	}
	if x.Cmp(was) != 0 || y.Cmp(other) != 0 || minus.CmpAbs(was) != 0 {
		t.Errorf("%s: a number is changed", name)
	}
}

// dense is a natural number of so many limbs.
func dense(mix *trial.Mixer, limbs int) *big.Int {
	words := make([]big.Word, limbs)
	for i := range words {
		words[i] = big.Word(mix.Bits())
	}
	words[limbs-1] |= 1
	return new(big.Int).SetBits(words)
}

// ones is 2^n - 1.
func ones(n uint) *big.Int {
	x := new(big.Int).Lsh(big.NewInt(1), n)
	return x.Sub(x, big.NewInt(1))
}

func product(x, y *big.Int) *big.Int { return new(big.Int).Mul(x, y) }

func total(x, y *big.Int) *big.Int { return new(big.Int).Add(x, y) }

func TestShortDivisors(t *testing.T) {
	mix := trial.Mixer(31)
	same(t, "nought and one", new(big.Int), big.NewInt(1))
	same(t, "nought and a power of two", new(big.Int), big.NewInt(64))
	same(t, "powers of two", big.NewInt(64), big.NewInt(16))
	for range 300 {
		x, y := dense(&mix, 1+mix.Below(4)), dense(&mix, 1+mix.Below(4))
		c := big.NewInt(int64(1 + mix.Below(100)))
		same(t, "short numbers", product(x, c), product(y, c))
		same(t, "a power of two", product(x, c), new(big.Int).Lsh(big.NewInt(1), uint(mix.Below(200))))
	}
}

// Numbers of more than 2048 limbs go another way than shorter ones.
func TestLongDivisors(t *testing.T) {
	mix := trial.Mixer(32)
	for _, limbs := range [][2]int{{2048, 2048}, {2049, 2049}, {2300, 2300}, {2100, 2600}, {3500, 2050}, {5000, 2060}} {
		same(t, "numbers without a common divisor", dense(&mix, limbs[0]), dense(&mix, limbs[1]))
	}
	for _, limbs := range []int{1, 40, 1500, 2040, 2100} {
		c := dense(&mix, limbs)
		same(t, "a common divisor", product(dense(&mix, 2200), c), product(dense(&mix, 2200), c))
	}
	x := dense(&mix, 2200)
	same(t, "one number twice", x, x)
	same(t, "a multiple", x, product(x, dense(&mix, 3)))
	same(t, "a long multiple", product(x, dense(&mix, 2100)), x)
	same(t, "a neighbour", x, total(x, big.NewInt(1)))
	same(t, "the upper bits are alike", x, total(x, dense(&mix, 1100)))
	same(t, "the upper bits are alike but for few", x, total(x, dense(&mix, 1900)))
	same(t, "the upper bits are multiples", total(product(x, big.NewInt(12)), big.NewInt(5)), total(product(x, big.NewInt(8)), big.NewInt(3)))
}

func TestLongDivisorsOfAKind(t *testing.T) {
	// Euclid's quotients of these are all 1, and as long as can be.
	one, two := big.NewInt(1), big.NewInt(2)
	for one.BitLen() < 140000 {
		one, two = two, total(one, two)
	}
	same(t, "quotients of 1", one, two)
	same(t, "quotients of 1, and a common divisor", product(one, big.NewInt(15)), product(two, big.NewInt(15)))
	same(t, "2^m - 1 and 2^n - 1", ones(64*2100), ones(64*2400))
	same(t, "2^n - 1 and 2^n - 3", ones(64*2100), new(big.Int).Sub(ones(64*2100), big.NewInt(2)))
	same(t, "2^m + 1 and 2^n + 1", total(ones(64*2100), big.NewInt(2)), total(ones(64*2501), big.NewInt(2)))
}

func TestSquares(t *testing.T) {
	mix := trial.Mixer(33)
	for range 2000 {
		g := mix.Gauss(3)
		if mix.Below(2) == 0 {
			g.Im.Den = g.Re.Den // one denominator, or one that is not in lowest terms any more
			g.Im = exact.Make(g.Im.Neg, g.Im.Num, g.Im.Den).Rat()
		}
		c := exact.ReadComplex(g)
		want := trial.Told(trial.ValueGauss(g).Norm())
		if got := exact.Squares(c.Re, c.Im).Rat(); !trial.Alike(got, want) {
			t.Fatalf("the sum of the squares of %v is %v, want %v", g, got, want)
		}
		if got := exact.Squares(c.Im, c.Re).Rat(); !trial.Alike(got, want) || !trial.AlikeGauss(c.Gauss(), g) {
			t.Fatalf("the sum of the squares of %v, turned round, is %v, want %v", g, got, want)
		}
	}
}
