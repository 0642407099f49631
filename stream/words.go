package stream

import "math"

// nanBits are those of every NaN that is saved: which one it is nothing else tells.
const nanBits = 0x7ff8000000000001

// writer is the bytes so far.
type writer []byte

// word writes 8 bytes, the highest first.
func (w *writer) word(x uint64) {
	for shift := 56; shift >= 0; shift -= 8 {
		*w = append(*w, byte(x>>shift))
	}
}

func (w *writer) float(x float64) {
	if math.IsNaN(x) {
		w.word(nanBits)
		return
	}
	w.word(math.Float64bits(x))
}

func (w *writer) numbers(list ...complex128) {
	for _, a := range list {
		w.float(real(a))
		w.float(imag(a))
	}
}

// reader is the bytes that are left, of which there are enough.
type reader []byte

// word takes the next 8 bytes, the highest first.
func (r *reader) word() uint64 {
	var x uint64
	for _, b := range (*r)[:wordBytes] {
		x = x<<8 | uint64(b)
	}
	*r = (*r)[wordBytes:]
	return x
}

func (r *reader) number() complex128 {
	re, im := r.word(), r.word()
	return complex(math.Float64frombits(re), math.Float64frombits(im))
}
