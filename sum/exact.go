package sum

import (
	"math/big"

	"quaver/api"
	"quaver/exact"
	"quaver/numbers"
	"quaver/part"
)

// Exact: the complex128 nearest to the true sum, part by part.
func Exact(list []complex128) (complex128, api.Errno) {
	if !numbers.Finite(list...) {
		return 0, api.ErrNaN
	}
	return nearest(len(list), func(i int) (complex128, complex128) { return list[i], 1 })
}

// ExactDot: see Dot.
func ExactDot(a, b []complex128) (complex128, api.Errno) {
	switch {
	case len(a) != len(b):
		return 0, api.ErrArg
	case !numbers.Finite(a...) || !numbers.Finite(b...):
		return 0, api.ErrNaN
	}
	return nearest(len(a), func(i int) (complex128, complex128) { return a[i], b[i] })
}

// nearest is the complex128 nearest to the true sum of n true products; the rule tells which two numbers are multiplied at a place.
func nearest(n int, rule func(i int) (complex128, complex128)) (complex128, api.Errno) {
	var re, im total
	for i := range n {
		a, b := rule(i)
		re.add(real(a), real(b))
		re.add(-imag(a), imag(b))
		im.add(real(a), imag(b))
		im.add(imag(a), real(b))
	}
	z, ok := exact.Complex{Re: re.number(), Im: im.number()}.Nearest()
	if !ok {
		return 0, api.ErrOver
	}
	return z, api.OK
}

// finest is the power of two that the product of any two floats is a whole multiple of.
const finest = -2 * 1074

// total is a true sum of products of floats, in steps of 2^finest.
type total struct {
	steps       big.Int
	left, right big.Int // room for the factors of a product
}

// add adds x times y, which are finite.
func (t *total) add(x, y float64) {
	xNeg, xm, xe, _ := part.Split(x)
	yNeg, ym, ye, _ := part.Split(y)
	if xm == 0 || ym == 0 {
		return
	}
	product := t.left.Mul(t.left.SetUint64(xm), t.right.SetUint64(ym))
	product.Lsh(product, uint(xe+ye-finest))
	if xNeg != yNeg {
		product.Neg(product)
	}
	t.steps.Add(&t.steps, product)
}

// number is the sum.
func (t *total) number() exact.Number {
	return exact.Over(&t.steps, new(big.Int).Lsh(big.NewInt(1), -finest))
}
