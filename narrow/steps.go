package narrow

import (
	"math"

	"quaver/cplx"
)

// Add, Sub, Mul, Div: each step rounded to float32.
func Add(a, b complex64) complex64 {
	return complex(real(a)+real(b), imag(a)+imag(b))
}

func Sub(a, b complex64) complex64 {
	return complex(real(a)-real(b), imag(a)-imag(b))
}

func Mul(a, b complex64) complex64 {
	ar, ai := real(a), imag(a)
	br, bi := real(b), imag(b)
	return complex(float32(ar*br)-float32(ai*bi), float32(ar*bi)+float32(ai*br))
}

func Div(a, b complex64) complex64 {
	ar, ai := real(a), imag(a)
	br, bi := real(b), imag(b)
	if size(br) >= size(bi) {
		t := bi / br
		d := br + float32(bi*t)
		return complex((ar+float32(ai*t))/d, (ai-float32(ar*t))/d)
	}
	t := br / bi
	d := bi + float32(br*t)
	return complex((float32(ar*t)+ai)/d, (float32(ai*t)-ar)/d)
}

// Once: the product reckoned in complex128 and rounded at the end.
func Once(a, b complex64) complex64 {
	return To(cplx.Mul(From(a), From(b)))
}

// Abs: the magnitude.
func Abs(a complex64) float32 {
	m, n := size(real(a)), size(imag(a))
	if m < n {
		m, n = n, m
	}
	switch {
	case endless(m) || endless(n):
		return float32(math.Inf(1))
	case m != m || n != n: // a NaN equals nothing
		return float32(math.NaN())
	case m == 0:
		return 0
	}
	t := n / m
	square := 1 + float32(t*t)
	return float32(m * float32(math.Sqrt(float64(square))))
}

// size is x without its sign.
func size(x float32) float32 {
	return float32(math.Abs(float64(x)))
}

// endless: is x an infinity?
func endless(x float32) bool {
	return math.IsInf(float64(x), 0)
}

// Dot: the sum of the products, from the left.
func Dot(a, b []complex64) complex64 {
	var s complex64
	for i := range min(len(a), len(b)) {
		s = Add(s, Mul(a[i], b[i]))
	}
	return s
}
