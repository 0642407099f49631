package narrow_test

import (
	"math"
	"testing"

	"quaver/trial"
)

const (
	least       = 0x1p-149
	leastNormal = 0x1p-126
	greatest    = math.MaxFloat32
)

var (
	minus    = float32(math.Copysign(0, -1))
	infinity = float32(math.Inf(1))
	nan      = float32(math.NaN())
)

// mixer makes the same numbers each time.
type mixer struct{ trial.Mixer }

// part is a float of an edge, of any bits, of a middle size, or a small whole number.
func (m *mixer) part() float32 {
	list := edges()
	switch m.Below(4) {
	case 0:
		return list[m.Below(len(list))]
	case 1:
		return math.Float32frombits(uint32(m.Bits()))
	case 2:
		return math.Float32frombits(uint32(m.Bits())&^(0xff<<23) | uint32(117+m.Below(20))<<23)
	}
	return float32(m.Below(9) - 4)
}

func (m *mixer) number() complex64 { return complex(m.part(), m.part()) }

// edges: numbers of every class and both signs.
func edges() []float32 {
	up := []float32{0, least, 3 * least, leastNormal - least, leastNormal, 0x1p-75, 0x1.8p-63, 0.1, 1 - 0x1p-24, 1, 1 + 0x1p-23, 1 + 0x1p-12, 3, 0x1.8p63, 0x1p64, 0x1p127, greatest, infinity}
	list := []float32{nan, math.Float32frombits(0xff800001)}
	for _, x := range up {
		list = append(list, x, -x)
	}
	return list
}

// corners: every pair of edges.
func corners() []complex64 {
	var list []complex64
	for _, re := range edges() {
		for _, im := range edges() {
			list = append(list, complex(re, im))
		}
	}
	return list
}

// alike: bit by bit; NaNs are one.
func alike(x, y float32) bool {
	return math.Float32bits(x) == math.Float32bits(y) || x != x && y != y
}

func both(a, b complex64) bool {
	return alike(real(a), real(b)) && alike(imag(a), imag(b))
}

// is holds an answer against the one that is wanted, bit by bit.
func is(t *testing.T, got, want complex64, name string, args ...any) {
	t.Helper()
	if !both(got, want) {
		t.Errorf(name+" = (%x, %x), want (%x, %x)", append(args, real(got), imag(got), real(want), imag(want))...)
	}
}

// The steps by another road: reckoned in float64 and rounded then. Of one product, sum, quotient or root of float32 the wider format loses nothing that the second rounding would have seen.

func times(x, y float32) float32 { return float32(float64(x) * float64(y)) }

func plus(x, y float32) float32 { return float32(float64(x) + float64(y)) }

func less(x, y float32) float32 { return float32(float64(x) - float64(y)) }

func over(x, y float32) float32 { return float32(float64(x) / float64(y)) }

func root(x float32) float32 { return float32(math.Sqrt(float64(x))) }

func size(x float32) float32 { return math.Float32frombits(math.Float32bits(x) &^ (1 << 31)) }
