package text

import (
	"math"
	"strconv"
	"strings"

	"quaver/api"
	"quaver/numbers"
	"quaver/part"
)

// reader goes through a text from the front, and panics with a fault where it can't go on.
type reader struct {
	text  string
	place int
}

// fault is why a reader gave up, and where.
type fault struct {
	at int
	e  api.Errno
}

// whole has a rule take the text, which must end with it; where the reader gives up, the fault.
func (r *reader) whole(rule func()) (at int, e api.Errno) {
	if len(r.text) > api.MaxText {
		return 0, api.ErrLong
	}
	defer func() {
		if f, gaveUp := recover().(fault); gaveUp {
			at, e = f.at, f.e
		}
	}()
	rule()
	if !r.ended() {
		r.cannotStand()
	}
	return 0, api.OK
}

// giveUp ends the reading.
func (r *reader) giveUp(at int, e api.Errno) {
	panic(fault{at, e})
}

// cannotStand gives up at the byte ahead, or at the text's end.
func (r *reader) cannotStand() {
	r.giveUp(r.place, api.ErrText)
}

// ended: is nothing left?
func (r *reader) ended() bool {
	return r.place == len(r.text)
}

// sees: is the byte ahead one of these?
func (r *reader) sees(these string) bool {
	return !r.ended() && strings.IndexByte(these, r.text[r.place]) >= 0
}

// may takes the byte ahead, if it is this one.
func (r *reader) may(this string) bool {
	if !r.sees(this) {
		return false
	}
	r.place++
	return true
}

// must takes these bytes, one behind the other.
func (r *reader) must(word string) {
	for i := range len(word) {
		if !r.may(word[i : i+1]) {
			r.cannotStand()
		}
	}
}

// The digits of both bases; those that can stand in front have no nought among them.
const (
	tens     = "0123456789"
	sixteens = "0123456789abcdef"
)

// digits takes digits without a nought in front.
func (r *reader) digits(all string) {
	if !r.sees(all[1:]) {
		r.cannotStand()
	}
	for r.sees(all) {
		r.place++
	}
}

// float takes a float and the byte that ends it.
func (r *reader) float(end string) float64 {
	first := r.place
	x := r.value()
	last := r.place
	r.must(end)
	if string(float(nil, x)) != r.text[first:last] {
		r.giveUp(first, api.ErrText)
	}
	return x
}

// value takes a float; if it is not right, the answer is one that is written otherwise.
func (r *reader) value() float64 {
	neg := r.may("-")
	switch {
	case !neg && r.may("n"):
		r.must("an")
		return math.NaN()
	case r.may("i"):
		r.must("nf")
		return math.Copysign(math.Inf(1), sign(neg))
	}
	r.must("0x")
	first := r.place
	if !r.may("0") {
		r.digits(sixteens)
	}
	m := r.text[first:r.place]
	r.must("p")
	first = r.place
	if !r.may("0") {
		r.may("-")
		r.digits(tens)
	}
	e := r.text[first:r.place]
	// Of numbers that are too long the errors may be passed over: no float is written at such a length.
	much, _ := strconv.ParseUint(m, 16, 64)
	power, _ := strconv.Atoi(e)
	return part.Join(neg, much, power)
}

// sign is a number of the sign.
func sign(neg bool) float64 {
	if neg {
		return -1
	}
	return 1
}

// number takes a number.
func (r *reader) number() complex128 {
	r.must("(")
	re := r.float(",")
	im := r.float(")")
	return complex(re, im)
}

// finite takes a number that must be finite.
func (r *reader) finite() complex128 {
	left := r.place
	a := r.number()
	if !numbers.Finite(a) {
		r.giveUp(left, api.ErrNaN)
	}
	return a
}

// root takes a zero or a pole behind those that are there.
func (r *reader) root(there []complex128) []complex128 {
	if len(there) == api.MaxRoots && r.sees("(") {
		r.giveUp(r.place, api.ErrLong)
	}
	return append(there, r.finite())
}

// zpk takes a filter of zeros, poles and gain.
func (r *reader) zpk() api.Zpk {
	var f api.Zpk
	r.must("zpk ")
	f.Gain = r.finite()
	r.must(" | ")
	for !r.may("|") {
		f.Zeros = r.root(f.Zeros)
		r.must(" ")
	}
	for !r.ended() {
		r.must(" ")
		f.Poles = r.root(f.Poles)
	}
	return f
}

// filter takes a filter of sections.
func (r *reader) filter() api.Filter {
	var f api.Filter
	r.must("filter ")
	f.Gain = r.finite()
	for !r.ended() {
		r.must(" ")
		if len(f.Sections) == api.MaxSections && r.sees("|") {
			r.giveUp(r.place, api.ErrLong)
		}
		r.must("|")
		f.Sections = append(f.Sections, r.section())
	}
	return f
}

// section takes five numbers.
func (r *reader) section() api.Section {
	var five [5]complex128
	for i := range five {
		r.must(" ")
		five[i] = r.finite()
	}
	return api.Section{B0: five[0], B1: five[1], B2: five[2], A1: five[3], A2: five[4]}
}
