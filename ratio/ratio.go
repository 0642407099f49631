// Package ratio is layer 2: see shared/doc/02-ratio.md.
package ratio

import (
	"quaver/api"
	"quaver/entry"
	"quaver/exact"
	"quaver/part"
)

// Form: is r in form?
func Form(r api.Rat) bool {
	return entry.InForm(r)
}

// nought: are all limbs noughts?
func nought(limbs []uint64) bool {
	for _, limb := range limbs {
		if limb != 0 {
			return false
		}
	}
	return true
}

// Make: num over den, with that sign, in lowest terms.
func Make(neg bool, num, den []uint64) (api.Rat, api.Errno) {
	switch {
	case entry.TooLong(num, den):
		return api.Rat{}, api.ErrLong
	case nought(den):
		return api.Rat{}, api.ErrZero
	}
	return exact.Make(neg, num, den).Rat(), api.OK
}

// Int: the rational number n.
func Int(n int64) api.Rat {
	return exact.Int(n).Rat()
}

// From: the rational number that x is.
func From(x float64) (api.Rat, api.Errno) {
	neg, m, e, fault := part.Split(x)
	if fault != api.OK {
		return api.Rat{}, fault
	}
	return exact.Binary(neg, m, e).Rat(), api.OK
}

// Add, Sub, Mul, Quo: sum, difference, product, quotient.
func Add(a, b api.Rat) (api.Rat, api.Errno) {
	return reckon(exact.Add, a, b)
}

func Sub(a, b api.Rat) (api.Rat, api.Errno) {
	return reckon(exact.Sub, a, b)
}

func Mul(a, b api.Rat) (api.Rat, api.Errno) {
	return reckon(exact.Mul, a, b)
}

func Quo(a, b api.Rat) (api.Rat, api.Errno) {
	// An error of the numbers' own goes first; b's limbs may be asked for noughts only where it is in form.
	if e := entry.Rats(a, b); e != api.OK {
		return api.Rat{}, e
	}
	if len(b.Num) == 0 {
		return api.Rat{}, api.ErrZero
	}
	return exact.Quo(exact.Read(a), exact.Read(b)).Rat(), api.OK
}

// reckon is what step makes of two numbers, if they may be handed in.
func reckon(step func(x, y exact.Number) exact.Number, a, b api.Rat) (api.Rat, api.Errno) {
	if e := entry.Rats(a, b); e != api.OK {
		return api.Rat{}, e
	}
	return step(exact.Read(a), exact.Read(b)).Rat(), api.OK
}

// Neg: -r. Cmp: -1, 0 or 1. Floor: the greatest whole number at most r.
func Neg(r api.Rat) (api.Rat, api.Errno) {
	return turn(exact.Neg, r)
}

func Cmp(a, b api.Rat) (int, api.Errno) {
	if e := entry.Rats(a, b); e != api.OK {
		return 0, e
	}
	return exact.Cmp(exact.Read(a), exact.Read(b)), api.OK
}

func Floor(r api.Rat) (api.Rat, api.Errno) {
	return turn(exact.Floor, r)
}

// turn is what step makes of one number, if it may be handed in.
func turn(step func(x exact.Number) exact.Number, r api.Rat) (api.Rat, api.Errno) {
	if e := entry.Rats(r); e != api.OK {
		return api.Rat{}, e
	}
	return step(exact.Read(r)).Rat(), api.OK
}
