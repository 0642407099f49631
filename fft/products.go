package fft

import (
	"quaver/api"
	"quaver/cplx"
	"quaver/sum"
)

// Round: the sums of products round the circle, each from the left.
func Round(a, b []complex128) ([]complex128, api.Errno) {
	if e := alike(a, b); e != api.OK {
		return nil, e
	}
	n := len(a)
	round := make([]complex128, n)
	products := make([]complex128, n)
	for i := range round {
		for j := range products {
			products[j] = cplx.Mul(a[j], b[(i-j+n)%n])
		}
		round[i] = sum.Left(products)
	}
	return round, api.OK
}

// Fast: the same by transforms.
func Fast(a, b []complex128) ([]complex128, api.Errno) {
	if e := alike(a, b); e != api.OK {
		return nil, e
	}
	left, _ := Forward(a)
	right, _ := Forward(b)
	for i := range left {
		left[i] = cplx.Mul(left[i], right[i])
	}
	return Inverse(left)
}

// alike tells what is wrong with the lengths of two lists that must be of one right length.
func alike(a, b []complex128) api.Errno {
	if len(a) != len(b) {
		return api.ErrArg
	}
	_, e := logOf(len(a))
	return e
}

// Exact: the true transform at one place would need the turns themselves; this is the nearest to the sum with the rounded ones.
func Exact(x []complex128, j int) (complex128, api.Errno) {
	n := len(x)
	if j < 0 || j >= n {
		return 0, api.ErrArg
	}
	k, e := logOf(n)
	if e != api.OK {
		return 0, e
	}
	points := backward(k)
	turned := make([]complex128, n)
	for i := range turned {
		turned[i] = points[i*j%n]
	}
	return sum.ExactDot(x, turned)
}
