// Package entry tells which exact numbers and polynomials may be handed in, as several layers ask it alike.
package entry

import (
	"quaver/api"
	"quaver/exact"
)

// InForm: is r in form?
func InForm(r api.Rat) bool {
	switch {
	case !trimmed(r.Num) || !trimmed(r.Den) || len(r.Den) == 0:
		return false
	case len(r.Num) == 0:
		return !r.Neg && len(r.Den) == 1 && r.Den[0] == 1
	}
	return exact.Coprime(r.Num, r.Den)
}

// trimmed: is the last limb not nought?
func trimmed(limbs []uint64) bool {
	return len(limbs) == 0 || limbs[len(limbs)-1] != 0
}

// Nought: is g, in form, 0?
func Nought(g api.Gauss) bool {
	return len(g.Re.Num) == 0 && len(g.Im.Num) == 0
}

// TooLong: has one of the lists more limbs than may be handed in?
func TooLong(lists ...[]uint64) bool {
	for _, limbs := range lists {
		if len(limbs) > api.MaxLimbs {
			return true
		}
	}
	return false
}

// Rats is the least error of these numbers.
func Rats(list ...api.Rat) api.Errno {
	for _, r := range list {
		if TooLong(r.Num, r.Den) {
			return api.ErrLong
		}
	}
	for _, r := range list {
		if !InForm(r) {
			return api.ErrForm
		}
	}
	return api.OK
}

// Above is the least error of a number that must be above nought.
func Above(r api.Rat) api.Errno {
	if e := Rats(r); e != api.OK {
		return e
	}
	if r.Neg || len(r.Num) == 0 {
		return api.ErrArg
	}
	return api.OK
}

// Gausses is the least error of these numbers.
func Gausses(list ...api.Gauss) api.Errno {
	parts := make([]api.Rat, 0, 2*len(list))
	for _, g := range list {
		parts = append(parts, g.Re, g.Im)
	}
	return Rats(parts...)
}

// Polys is the least error of these polynomials, whose degrees may reach most.
func Polys(most int, list ...api.Poly) api.Errno {
	for _, p := range list {
		if len(p) > most+1 {
			return api.ErrLong
		}
	}
	var all []api.Gauss
	for _, p := range list {
		all = append(all, p...)
	}
	if e := Gausses(all...); e != api.OK {
		return e
	}
	for _, p := range list {
		if len(p) > 0 && Nought(p[len(p)-1]) {
			return api.ErrForm
		}
	}
	return api.OK
}

// Rooted is the least error of a polynomial that may not be nought, whose degree may reach most.
func Rooted(most int, p api.Poly) api.Errno {
	if len(p) == 0 {
		return api.ErrZero
	}
	return Polys(most, p)
}

// Least is the error that goes first of these: the one with the least number.
func Least(list ...api.Errno) api.Errno {
	first := api.OK
	for _, e := range list {
		if first == api.OK || e != api.OK && e < first {
			first = e
		}
	}
	return first
}
