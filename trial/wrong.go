package trial

import (
	"slices"

	"quaver/api"
)

// Ones is so many limbs, all of the same value.
func Ones(n int, limb uint64) []uint64 {
	return slices.Repeat([]uint64{limb}, n)
}

// Wrong: Rats that are not in form, none of them too long.
func Wrong() []api.Rat {
	return []api.Rat{
		{},
		{Num: []uint64{1}},
		{Neg: true, Num: []uint64{1}, Den: []uint64{}},
		{Den: []uint64{0}},
		{Den: []uint64{2}},
		{Den: []uint64{1, 1}},
		{Den: []uint64{1, 0}},
		{Neg: true, Den: []uint64{1}},
		{Num: []uint64{0}, Den: []uint64{1}},
		{Num: []uint64{1}, Den: []uint64{0}},
		{Num: []uint64{1, 0}, Den: []uint64{1}},
		{Num: []uint64{1}, Den: []uint64{3, 0}},
		{Num: []uint64{2}, Den: []uint64{4}},
		{Num: []uint64{15}, Den: []uint64{21}},
		{Neg: true, Num: []uint64{0, 1}, Den: []uint64{6}},
		{Num: []uint64{3}, Den: []uint64{3}},
		{Num: []uint64{0, 0, 7}, Den: []uint64{0, 0, 7}},
		{Num: []uint64{5, 5}, Den: []uint64{1, 1}},
	}
}

// Long: Rats with one limb too many, in form or not.
func Long() []api.Rat {
	return []api.Rat{
		{Num: Ones(api.MaxLimbs+1, 1), Den: []uint64{1}},
		{Num: []uint64{1}, Den: Ones(api.MaxLimbs+1, 1)},
		{Num: make([]uint64, api.MaxLimbs+1), Den: []uint64{1}},
		{Neg: true, Den: make([]uint64, api.MaxLimbs+1)},
		{Num: Ones(api.MaxLimbs+1, 2), Den: nil},
	}
}

// Either is each of the Rats as the real part of a number, and as the imaginary one, beside a part in form.
func Either(list []api.Rat) []api.Gauss {
	var all []api.Gauss
	for _, r := range list {
		all = append(all, api.Gauss{Re: r, Im: Frac(2, 3)}, api.Gauss{Re: Frac(0, 1), Im: r})
	}
	return all
}
