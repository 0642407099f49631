package cplx

import "math"

// Each product stands in a conversion of its own, here and in all layers: a bare one might be fused with a sum, and would not be rounded by itself then.

// Conj, Turn: the conjugate; i times a.
func Conj(a complex128) complex128 { return complex(real(a), -imag(a)) }

func Turn(a complex128) complex128 { return complex(-imag(a), real(a)) }

// Scale: both parts times x.
func Scale(x float64, a complex128) complex128 {
	return complex(float64(x*real(a)), float64(x*imag(a)))
}

// Mul, Div: product and quotient, each step rounded by itself.
func Mul(a, b complex128) complex128 {
	ar, ai := real(a), imag(a)
	br, bi := real(b), imag(b)
	return complex(float64(ar*br)-float64(ai*bi), float64(ar*bi)+float64(ai*br))
}

func Div(a, b complex128) complex128 {
	ar, ai := real(a), imag(a)
	br, bi := real(b), imag(b)
	if math.Abs(br) >= math.Abs(bi) {
		t := bi / br
		d := br + float64(bi*t)
		return complex((ar+float64(ai*t))/d, (ai-float64(ar*t))/d)
	}
	t := br / bi
	d := bi + float64(br*t)
	return complex((float64(ar*t)+ai)/d, (float64(ai*t)-ar)/d)
}

// Abs2, Abs: the square of the magnitude, the magnitude.
func Abs2(a complex128) float64 {
	return float64(real(a)*real(a)) + float64(imag(a)*imag(a))
}

func Abs(a complex128) float64 {
	m, n := sizes(a)
	switch {
	case math.IsInf(m, 1) || math.IsInf(n, 1):
		return math.Inf(1)
	case math.IsNaN(m) || math.IsNaN(n):
		return math.NaN()
	case m == 0:
		return 0
	}
	t := n / m
	return float64(m * math.Sqrt(1+float64(t*t)))
}

// sizes is the parts without their signs, the greater one first where neither is a NaN.
func sizes(a complex128) (float64, float64) {
	m, n := math.Abs(real(a)), math.Abs(imag(a))
	if m < n {
		return n, m
	}
	return m, n
}

// Sqrt: the root whose real part isn't below nought.
func Sqrt(a complex128) complex128 {
	m, _ := sizes(a)
	switch {
	case !Finite(a):
		return complex(math.NaN(), math.NaN())
	case m == 0:
		return complex(0, imag(a))
	case m >= 0x1p1000:
		return Scale(0x1p100, rootBetween(Scale(0x1p-200, a)))
	case m < 0x1p-900:
		return Scale(0x1p-100, rootBetween(Scale(0x1p200, a)))
	}
	return rootBetween(a)
}

// rootBetween is the root of a number whose greater part is neither so great nor so small that a step leaves the format.
func rootBetween(a complex128) complex128 {
	u := math.Sqrt(float64((math.Abs(real(a)) + Abs(a)) * 0.5))
	v := imag(a) / float64(2*u)
	if real(a) >= 0 {
		return complex(u, v)
	}
	return complex(math.Abs(v), math.Copysign(u, imag(a)))
}
