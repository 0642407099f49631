package ratio_test

import (
	"math"
	"math/big"
	"slices"
	"testing"

	"quaver/api"
	"quaver/ratio"
)

// mixer makes the same sequence of bits each time.
type mixer uint64

func (m *mixer) bits() uint64 {
	*m += 0x9e3779b97f4a7c15
	z := uint64(*m)
	z = (z ^ z>>30) * 0xbf58476d1ce4e5b9
	z = (z ^ z>>27) * 0x94d049bb133111eb
	return z ^ z>>31
}

// below is a number from 0 up to n - 1.
func (m *mixer) below(n int) int {
	return int(m.bits() % uint64(n))
}

// limbs is a list of up to most limbs; some are noughts or ones throughout, as carries like them.
func (m *mixer) limbs(most int) []uint64 {
	list := make([]uint64, m.below(most+1))
	for i := range list {
		switch m.below(4) {
		case 0:
			list[i] = 0
		case 1:
			list[i] = math.MaxUint64
		case 2:
			list[i] = m.bits() >> m.below(64)
		case 3:
			list[i] = m.bits()
		}
	}
	return list
}

// rat is a number in form.
func (m *mixer) rat(t *testing.T, most int) api.Rat {
	t.Helper()
	den := append(m.limbs(most-1), 1+m.bits()>>1>>m.below(63))
	r, e := ratio.Make(m.below(2) == 0, m.limbs(most), den)
	if e != api.OK {
		t.Fatalf("P2.2: Make: %d", e)
	}
	return r
}

// natural is the number of these limbs, put together limb by limb.
func natural(limbs []uint64) *big.Int {
	x := new(big.Int)
	for _, limb := range slices.Backward(limbs) {
		x.Lsh(x, 64)
		x.Add(x, new(big.Int).SetUint64(limb))
	}
	return x
}

// value is what r is, by another road; r's Den is not nought.
func value(r api.Rat) *big.Rat {
	x := new(big.Rat).SetFrac(natural(r.Num), natural(r.Den))
	if r.Neg {
		x.Neg(x)
	}
	return x
}

// split is x's limbs, taken apart limb by limb.
func split(x *big.Int) []uint64 {
	var list []uint64
	rest := new(big.Int).Abs(x)
	for rest.Sign() != 0 {
		list = append(list, new(big.Int).And(rest, new(big.Int).SetUint64(math.MaxUint64)).Uint64())
		rest.Rsh(rest, 64)
	}
	return list
}

// told is x as the Rat in form that it must be.
func told(x *big.Rat) api.Rat {
	return api.Rat{Neg: x.Sign() < 0, Num: split(x.Num()), Den: split(x.Denom())}
}

// alike: limb by limb; nil and empty lists are the same.
func alike(a, b api.Rat) bool {
	return a.Neg == b.Neg && slices.Equal(a.Num, b.Num) && slices.Equal(a.Den, b.Den)
}

// frac is n over d, written as it stands; n over d is in lowest terms.
func frac(n int64, d uint64) api.Rat {
	m := uint64(n)
	if n < 0 {
		m = -m
	}
	if m == 0 {
		return api.Rat{Den: []uint64{1}}
	}
	return api.Rat{Neg: n < 0, Num: []uint64{m}, Den: []uint64{d}}
}

// up is 2^n, down is -2^n.
func up(n int) *big.Rat {
	x := new(big.Rat).SetInt(new(big.Int).Lsh(big.NewInt(1), uint(max(n, -n))))
	if n < 0 {
		x.Inv(x)
	}
	return x
}

func down(n int) *big.Rat {
	x := up(n)
	return x.Neg(x)
}

// sum is all of these together, in form.
func sum(list ...*big.Rat) api.Rat {
	all := new(big.Rat)
	for _, x := range list {
		all.Add(all, x)
	}
	return told(all)
}

// ones is so many limbs, all of the same value.
func ones(n int, limb uint64) []uint64 {
	return slices.Repeat([]uint64{limb}, n)
}

// wrong: Rats that are not in form, none of them too long.
func wrong() []api.Rat {
	return []api.Rat{
		{},
		{Num: []uint64{1}},
		{Neg: true, Num: []uint64{1}, Den: []uint64{}},
		{Den: []uint64{0}},
		{Den: []uint64{2}},
		{Den: []uint64{1, 1}},
		{Den: []uint64{1, 0}},
		{Neg: true, Den: []uint64{1}},
		{Num: []uint64{0}, Den: []uint64{1}},
		{Num: []uint64{1}, Den: []uint64{0}},
		{Num: []uint64{1, 0}, Den: []uint64{1}},
		{Num: []uint64{1}, Den: []uint64{3, 0}},
		{Num: []uint64{2}, Den: []uint64{4}},
		{Num: []uint64{15}, Den: []uint64{21}},
		{Neg: true, Num: []uint64{0, 1}, Den: []uint64{6}},
		{Num: []uint64{3}, Den: []uint64{3}},
		{Num: []uint64{0, 0, 7}, Den: []uint64{0, 0, 7}},
		{Num: []uint64{5, 5}, Den: []uint64{1, 1}},
	}
}

// long: Rats with one limb too many, in form or not.
func long() []api.Rat {
	return []api.Rat{
		{Num: ones(api.MaxLimbs+1, 1), Den: []uint64{1}},
		{Num: []uint64{1}, Den: ones(api.MaxLimbs+1, 1)},
		{Num: make([]uint64, api.MaxLimbs+1), Den: []uint64{1}},
		{Neg: true, Den: make([]uint64, api.MaxLimbs+1)},
		{Num: ones(api.MaxLimbs+1, 2), Den: nil},
	}
}
