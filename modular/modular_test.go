package modular_test

import (
	"math/big"
	"slices"
	"testing"

	"quaver/modular"
	"quaver/trial"
)

func whole(x uint64) *big.Int {
	return new(big.Int).SetUint64(x)
}

func TestPrimes(t *testing.T) {
	// The greatest primes below 2^62 that are 1 more than a multiple of 4, found by looking at each number.
	next := whole(1 << 62)
	f := modular.First()
	for range 30 {
		for next.Sub(next, whole(1)); !next.ProbablyPrime(20) || next.Bit(1) == 1; next.Sub(next, whole(1)) {
		}
		if whole(f.Prime()).Cmp(next) != 0 {
			t.Fatalf("the next prime is %v, not %d", next, f.Prime())
		}
		if f.Add(f.Mul(f.Root(), f.Root()), 1) != 0 {
			t.Errorf("modulo %d: %d is no root of -1", f.Prime(), f.Root())
		}
		f = f.Next()
	}
}

func TestSteps(t *testing.T) {
	f := modular.First()
	p := whole(f.Prime())
	list := []uint64{0, 1, 2, 3, f.Prime() - 1, f.Prime() - 2, f.Prime() / 2, f.Prime()/2 + 1}
	mix := trial.Mixer(1)
	for range 40 {
		list = append(list, mix.Bits()%f.Prime())
	}
	for _, a := range list {
		for _, b := range list {
			x, y := whole(a), whole(b)
			for _, c := range []struct {
				name string
				got  uint64
				want *big.Int
			}{
				{"+", f.Add(a, b), new(big.Int).Add(x, y)},
				{"-", f.Sub(a, b), new(big.Int).Sub(x, y)},
				{"*", f.Mul(a, b), new(big.Int).Mul(x, y)},
			} {
				if c.want.Mod(c.want, p).Uint64() != c.got {
					t.Fatalf("%d %s %d = %d, want %v", a, c.name, b, c.got, c.want)
				}
			}
		}
		if a != 0 && f.Mul(a, f.Inverse(a)) != 1 {
			t.Fatalf("1 / %d = %d", a, f.Inverse(a))
		}
	}
}

// times is p * q.
func times(f modular.Field, p, q []uint64) []uint64 {
	product := make([]uint64, len(p)+len(q)-1)
	for i, a := range p {
		for j, b := range q {
			product[i+j] = f.Add(product[i+j], f.Mul(a, b))
		}
	}
	return product
}

func TestGcd(t *testing.T) {
	f := modular.First().Next()
	mix := trial.Mixer(2)
	some := func(places int) []uint64 {
		p := make([]uint64, places)
		for i := range p {
			p[i] = mix.Bits() % f.Prime() * uint64(1-mix.Below(3)/2)
		}
		p[0] = mix.Bits() % f.Prime()
		p[places-1] = 1
		return p
	}
	for range 300 {
		// Mixed polynomials have no roots in common, but for one case in 2^50 or so.
		g, a, b := some(1+mix.Below(6)), some(1+mix.Below(9)), some(1+mix.Below(9))
		b = times(f, b, []uint64{1 + mix.Bits()%(f.Prime()-1)})
		for len(a) == 1 && len(b) == 1 && len(g) == 1 {
			g = some(3)
		}
		if got := f.Gcd(times(f, g, a), times(f, g, b)); !slices.Equal(got, g) {
			t.Fatalf("Gcd of %v times %v and %v: %v", g, a, b, got)
		}
		if got := f.Gcd(times(f, b, g), nil); !slices.Equal(times(f, got, b[len(b)-1:]), times(f, b, g)) {
			t.Fatalf("Gcd of %v times %v and nought: %v", g, b, got)
		}
	}
	if got := f.Gcd(nil, []uint64{5, 7}); len(got) != 2 || got[1] != 1 || f.Mul(got[0], 7) != 5 {
		t.Errorf("Gcd of nought and another: %v", got)
	}
	if got := f.Gcd([]uint64{3, 0, 4}, []uint64{9}); !slices.Equal(got, []uint64{1}) {
		t.Errorf("Gcd with a constant: %v", got)
	}
}
