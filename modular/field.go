// Package modular reckons with whole numbers modulo primes: polynomials over a field whose numbers never grow, in which what holds of long numbers shows itself fast.
package modular

import (
	"math/big"
	"math/bits"
)

// Field is the numbers modulo a prime that is 1 more than a multiple of 4, so that -1 has a root there.
type Field struct {
	prime uint64
	root  uint64 // root * root = -1
}

// First is the field of the greatest such prime below 2^62, where a sum of two numbers stays far below 2^64.
func First() Field {
	return below(1<<62 + 1)
}

// Next is the field of the next prime below f's. There are more of them than anyone can use up.
func (f Field) Next() Field {
	return below(f.prime)
}

// below is the field of the greatest such prime below n, which is 1 more than a multiple of 4.
func below(n uint64) Field {
	for p := n - 4; ; p -= 4 {
		if new(big.Int).SetUint64(p).ProbablyPrime(0) {
			return field(p)
		}
	}
}

// field is the field of a prime.
func field(p uint64) Field {
	f := Field{prime: p}
	for a := uint64(2); ; a++ {
		// Half of all numbers have no root; such a one, raised so, is a root of -1.
		root := f.pow(a, (p-1)/4)
		if f.Mul(root, root) == p-1 {
			return Field{p, root}
		}
	}
}

// Prime is the field's prime.
func (f Field) Prime() uint64 {
	return f.prime
}

// Root is a root of -1.
func (f Field) Root() uint64 {
	return f.root
}

// Add is a + b.
func (f Field) Add(a, b uint64) uint64 {
	s := a + b
	if s >= f.prime {
		s -= f.prime
	}
	return s
}

// Sub is a - b.
func (f Field) Sub(a, b uint64) uint64 {
	if a >= b {
		return a - b
	}
	return a + f.prime - b
}

// Mul is a * b.
func (f Field) Mul(a, b uint64) uint64 {
	high, low := bits.Mul64(a, b)
	_, rest := bits.Div64(high, low, f.prime)
	return rest
}

// Inverse is 1 / a, where a is not 0.
func (f Field) Inverse(a uint64) uint64 {
	return f.pow(a, f.prime-2)
}

// pow is a^n.
func (f Field) pow(a, n uint64) uint64 {
	product := uint64(1)
	for ; n > 0; n >>= 1 {
		if n&1 == 1 {
			product = f.Mul(product, a)
		}
		a = f.Mul(a, a)
	}
	return product
}
