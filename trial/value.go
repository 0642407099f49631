package trial

import (
	"math"
	"math/big"
	"slices"

	"quaver/api"
)

// Natural is the number of these limbs, put together limb by limb.
func Natural(limbs []uint64) *big.Int {
	x := new(big.Int)
	for _, limb := range slices.Backward(limbs) {
		x.Lsh(x, 64)
		x.Add(x, new(big.Int).SetUint64(limb))
	}
	return x
}

// Split is x's limbs, taken apart limb by limb.
func Split(x *big.Int) []uint64 {
	var list []uint64
	rest := new(big.Int).Abs(x)
	for rest.Sign() != 0 {
		list = append(list, new(big.Int).And(rest, new(big.Int).SetUint64(math.MaxUint64)).Uint64())
		rest.Rsh(rest, 64)
	}
	return list
}

// Value is what r is; r's Den is not nought.
func Value(r api.Rat) *big.Rat {
	x := new(big.Rat).SetFrac(Natural(r.Num), Natural(r.Den))
	if r.Neg {
		x.Neg(x)
	}
	return x
}

// Told is x as the Rat in form that it must be.
func Told(x *big.Rat) api.Rat {
	return api.Rat{Neg: x.Sign() < 0, Num: Split(x.Num()), Den: Split(x.Denom())}
}

// Frac is n over d, which is in lowest terms, written as it stands.
func Frac(n int64, d uint64) api.Rat {
	m := uint64(n)
	if n < 0 {
		m = -m
	}
	if m == 0 {
		return api.Rat{Den: []uint64{1}}
	}
	return api.Rat{Neg: n < 0, Num: []uint64{m}, Den: []uint64{d}}
}

// Up is 2^n, Down is -2^n.
func Up(n int) *big.Rat {
	x := new(big.Rat).SetInt(new(big.Int).Lsh(big.NewInt(1), uint(max(n, -n))))
	if n < 0 {
		x.Inv(x)
	}
	return x
}

func Down(n int) *big.Rat {
	x := Up(n)
	return x.Neg(x)
}

// Sum is all of these together, in form.
func Sum(list ...*big.Rat) api.Rat {
	all := new(big.Rat)
	for _, x := range list {
		all.Add(all, x)
	}
	return Told(all)
}

// Whole is a + bi, written as it stands.
func Whole(a, b int64) api.Gauss {
	return api.Gauss{Re: Frac(a, 1), Im: Frac(b, 1)}
}

// Reals is the polynomial of these coefficients, the one of z^0 first; noughts at its end stay.
func Reals(list ...int64) api.Poly {
	p := api.Poly{}
	for _, a := range list {
		p = append(p, Whole(a, 0))
	}
	return p
}

// Nought: is g, in form, 0?
func Nought(g api.Gauss) bool {
	return len(g.Re.Num) == 0 && len(g.Im.Num) == 0
}

// Alike: limb by limb; nil and empty lists are the same.
func Alike(a, b api.Rat) bool {
	return a.Neg == b.Neg && slices.Equal(a.Num, b.Num) && slices.Equal(a.Den, b.Den)
}

func AlikeGauss(a, b api.Gauss) bool {
	return Alike(a.Re, b.Re) && Alike(a.Im, b.Im)
}

func AlikePoly(p, q api.Poly) bool {
	return slices.EqualFunc(p, q, AlikeGauss)
}

func AlikePolys(a, b []api.Poly) bool {
	return slices.EqualFunc(a, b, AlikePoly)
}
