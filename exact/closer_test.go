package exact

import (
	"math/big"
	"testing"

	"quaver/trial"
)

// Each step must take its share of the bits away: what it answers would be right without that too, but come far too late.
func TestCloser(t *testing.T) {
	mix := trial.Mixer(34)
	number := func(bits uint) *big.Int {
		x := new(big.Int)
		for range bits/64 + 3 {
			x.Lsh(x, 64)
			x.Or(x, new(big.Int).SetUint64(mix.Bits()))
		}
		return x.Rsh(x, uint(x.BitLen())-bits)
	}
	for round := range 400 {
		n := uint(200 + 50*round)
		x, y := number(n), number(n-uint(mix.Below(100)))
		if round%3 == 0 {
			y.Add(x, number(n/2)) // the upper bits are alike
		}
		if round%2 == 0 {
			x.Neg(x)
		}
		more, less := closer(x, y)
		if most := int(n)*3/4 + 64; more.Sign() < 0 || less.Sign() < 0 || more.Cmp(less) < 0 || more.BitLen() > most {
			t.Fatalf("two numbers of %d bits: one of %d and one of %d are left", n, more.BitLen(), less.BitLen())
		}
		if got, want := new(big.Int).GCD(nil, nil, more, less), new(big.Int).GCD(nil, nil, x, y); got.Cmp(want) != 0 {
			t.Fatalf("two numbers of %d bits: the common divisor %v became %v", n, want, got)
		}
	}
}
