package stream

import (
	"bytes"
	"math"
	"slices"

	"quaver/api"
	"quaver/numbers"
)

// What stands in front: the mark, and a byte each for the guard and for how many sections there are.
const (
	mark    = "QVS1"
	guardAt = len(mark)
	countAt = guardAt + 1
	wordsAt = countAt + 1
)

// Behind it stand words: floats by their bits, and counts.
const (
	wordBytes    = 8
	aloneWords   = 4 // the gain, At, how many parts were changed
	sectionWords = 10
	stateWords   = 4
)

// The guard's byte is the sum of those that are set; noGuard is the least that is none.
const (
	flush = 1 << iota
	clip
	mute
	noGuard
)

// Save: all that the stream is, as bytes. Load: the stream that bytes are.
func (s *Stream) Save() []byte {
	if s == nil {
		return nil
	}
	w := writer(mark)
	w = append(w, byteOf(s.guard), byte(len(s.filter.Sections)))
	w.numbers(s.filter.Gain)
	for _, section := range s.filter.Sections {
		w.numbers(numbers.Coefficients(section)...)
	}
	w.word(s.at)
	w.word(s.changed)
	for _, st := range s.states {
		w.numbers(st.S1, st.S2)
	}
	return w
}

func Load(p []byte) (*Stream, api.Errno) {
	switch {
	case len(p) > countAt && p[countAt] > api.MaxSections:
		return nil, api.ErrLong
	case !fits(p):
		return nil, api.ErrText
	}
	r := reader(p[wordsAt:])
	f := api.Filter{Gain: r.number(), Sections: make([]api.Section, p[countAt])}
	for i := range f.Sections {
		f.Sections[i] = api.Section{B0: r.number(), B1: r.number(), B2: r.number(), A1: r.number(), A2: r.number()}
	}
	s, e := New(f, guardOf(p[guardAt]))
	if e != api.OK {
		return nil, e
	}
	s.at, s.changed = r.word(), r.word()
	for i := range s.states {
		s.states[i] = api.State{S1: r.number(), S2: r.number()}
	}
	return s, api.OK
}

// fits: are these bytes of the form that Save gives them?
func fits(p []byte) bool {
	if len(p) < wordsAt || !bytes.HasPrefix(p, []byte(mark)) || p[guardAt] >= noGuard {
		return false
	}
	n := int(p[countAt])
	if len(p) != wordsAt+wordBytes*(aloneWords+n*(sectionWords+stateWords)) {
		return false
	}
	return plain(p[len(p)-wordBytes*n*stateWords:])
}

// plain: is each NaN among these floats the one that Save writes?
func plain(p []byte) bool {
	for piece := range slices.Chunk(p, wordBytes) {
		r := reader(piece)
		if w := r.word(); math.IsNaN(math.Float64frombits(w)) && w != nanBits {
			return false
		}
	}
	return true
}

// byteOf is the guard's byte.
func byteOf(g api.Guard) byte {
	var b byte
	if g.Flush {
		b |= flush
	}
	if g.Clip {
		b |= clip
	}
	if g.Mute {
		b |= mute
	}
	return b
}

// guardOf is the guard of that byte.
func guardOf(b byte) api.Guard {
	return api.Guard{Flush: b&flush != 0, Clip: b&clip != 0, Mute: b&mute != 0}
}
