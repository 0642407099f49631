// Package trial holds what the tests of several packages share: numbers that come the same each time, exact numbers reckoned by another road, memory that shows whether it was touched. No package of the program calls it.
package trial

import (
	"math"
	"math/big"

	"quaver/api"
)

// Mixer makes the same sequence of bits each time.
type Mixer uint64

func (m *Mixer) Bits() uint64 {
	*m += 0x9e3779b97f4a7c15
	z := uint64(*m)
	z = (z ^ z>>30) * 0xbf58476d1ce4e5b9
	z = (z ^ z>>27) * 0x94d049bb133111eb
	return z ^ z>>31
}

// Below is a number from 0 up to n - 1.
func (m *Mixer) Below(n int) int {
	return int(m.Bits() % uint64(n))
}

// Limbs is a list of up to most limbs; some are noughts or ones throughout, as carries like them.
func (m *Mixer) Limbs(most int) []uint64 {
	list := make([]uint64, m.Below(most+1))
	for i := range list {
		switch m.Below(4) {
		case 0:
			list[i] = 0
		case 1:
			list[i] = math.MaxUint64
		case 2:
			list[i] = m.Bits() >> m.Below(64)
		case 3:
			list[i] = m.Bits()
		}
	}
	return list
}

// Odd is just so many limbs of an odd number.
func (m *Mixer) Odd(n int) []uint64 {
	list := make([]uint64, n)
	for i := range list {
		list[i] = m.Bits()
	}
	list[0] |= 1
	list[n-1] |= 1
	return list
}

// Rat is a number in form, of up to most limbs over as many: a nought, a small number or a long one.
func (m *Mixer) Rat(most int) api.Rat {
	num, den := m.Limbs(most), append(m.Limbs(most-1), 1+m.Bits()>>1>>m.Below(63))
	switch m.Below(4) {
	case 0:
		num, den = []uint64{uint64(m.Below(7))}, []uint64{1}
	case 1: // over a power of two, as floats are
		den = append(make([]uint64, m.Below(most)), 1<<m.Below(64))
	}
	r := new(big.Rat).SetFrac(Natural(num), Natural(den))
	if m.Below(2) == 0 {
		r.Neg(r)
	}
	return Told(r)
}

// Gauss is a number in form.
func (m *Mixer) Gauss(most int) api.Gauss {
	return api.Gauss{Re: m.Rat(most), Im: m.Rat(most)}
}

// Poly is a polynomial in form, of up to so many places.
func (m *Mixer) Poly(places, most int) api.Poly {
	p := make(api.Poly, m.Below(places+1))
	for i := range p {
		p[i] = m.Gauss(most)
	}
	for len(p) > 0 && Nought(p[len(p)-1]) {
		p[len(p)-1] = m.Gauss(most)
	}
	return p
}
