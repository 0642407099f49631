package trial

import (
	"math"
	"slices"
)

// The floats at the ends of the format.
const (
	Least       = 0x1p-1074
	LeastNormal = 0x1p-1022
	Greatest    = math.MaxFloat64
)

// AlikeFloat: bit by bit; NaNs are one.
func AlikeFloat(x, y float64) bool {
	return math.Float64bits(x) == math.Float64bits(y) || math.IsNaN(x) && math.IsNaN(y)
}

func AlikeNumber(a, b complex128) bool {
	return AlikeFloat(real(a), real(b)) && AlikeFloat(imag(a), imag(b))
}

func AlikeNumbers(a, b []complex128) bool {
	return slices.EqualFunc(a, b, AlikeNumber)
}

// teller is what a test tells its faults.
type teller interface {
	Helper()
	Errorf(format string, args ...any)
}

// Is holds a number against the one that is wanted, bit by bit.
func Is(t teller, got, want complex128, name string, args ...any) {
	t.Helper()
	if !AlikeNumber(got, want) {
		t.Errorf(name+" = (%x, %x), want (%x, %x)", append(args, real(got), imag(got), real(want), imag(want))...)
	}
}

// Floats: numbers of every class and both signs.
func Floats() []float64 {
	list := []float64{math.NaN(), math.Float64frombits(0xfff0000000000001)}
	for _, x := range []float64{0, Least, 3 * Least, LeastNormal - Least, LeastNormal, 0x1p-538, 0x1.8p-511, 0.1, 1 - 0x1p-53, 1, 1 + 0x1p-52, 3, 0x1.8p511, 0x1p512, 0x1p1023, Greatest, math.Inf(1)} {
		list = append(list, x, Turned(x))
	}
	return list
}

// Float is a float of any kind, of any bits, of a middle size, or a small whole number.
func (m *Mixer) Float() float64 {
	switch m.Below(4) {
	case 0:
		list := Floats()
		return list[m.Below(len(list))]
	case 1:
		return math.Float64frombits(m.Bits())
	case 2:
		return m.Middle()
	}
	return float64(m.Below(9) - 4)
}

// Middle is a float of a middle size.
func (m *Mixer) Middle() float64 {
	return math.Float64frombits(m.Bits()&^(0x7ff<<52) | uint64(1013+m.Below(20))<<52)
}

// Numbers are so many complex numbers, whose parts the rule tells.
func (m *Mixer) Numbers(n int, rule func() float64) []complex128 {
	list := make([]complex128, n)
	for i := range list {
		list[i] = complex(rule(), rule())
	}
	return list
}
