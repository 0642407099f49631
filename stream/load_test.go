package stream_test

import (
	"encoding/binary"
	"math"
	"slices"
	"testing"

	"quaver/api"
	"quaver/stream"
	"quaver/trial"
)

func TestLoad(t *testing.T) {
	mix := trial.Mixer(321)
	for _, n := range []int{0, 1, 2, 3, api.MaxSections - 1, api.MaxSections} {
		for _, g := range trial.Guards() {
			f := mix.Filter(n)
			s, m := made(t, f, g), newTwin(f, g)
			for range 3 {
				xs := mix.Samples(3)
				s.Push(xs)
				m.push(xs)
				s = loaded(t, s.Save())
				stands(t, s, m, "P20.5: %d sections, %v", n, g)
			}
			like(t, s, m, mix.Samples(2), nil, mix.Samples(2))
		}
	}
}

func TestLoadOfAnyTable(t *testing.T) {
	mix := trial.Mixer(322)
	for round := range 60 {
		for _, g := range trial.Guards() {
			m := mixed(&mix, round%5, g)
			s := loaded(t, m.save())
			stands(t, s, m, "P20.5: %v", g)
			xs := mix.Samples(3)
			are(t, asked(t, s, xs), m.push(xs), "P20.5: Seq(%x), %v", xs, g)
			stands(t, s, m, "P20.5: behind Seq(%x), %v", xs, g)
			like(t, s, m, mix.Samples(2))
			stands(t, s.Fork(), m, "P20.6: a fork of a loaded stream")
		}
	}
}

func TestChangedIsCarriedOn(t *testing.T) {
	f := half()
	s, m := made(t, f, all), newTwin(f, all)
	for round := range 6 {
		xs := list(complex(nan, nan), 1)
		are(t, s.Push(xs), m.push(xs), "P20.2: Push")
		if want := uint64(6 * (round + 1)); m.Changed != want {
			t.Fatalf("%d parts are changed, not %d", m.Changed, want)
		}
		stands(t, s, m, "P20.4: the count, %d times loaded or forked", round)
		if round%2 == 0 {
			s = loaded(t, s.Save())
		} else {
			s = s.Fork()
		}
		stands(t, s, m, "P20.4: the count, loaded or forked")
	}
}

func TestLoadOfAWrongLength(t *testing.T) {
	mix := trial.Mixer(323)
	for _, n := range []int{0, 1, 2, api.MaxSections} {
		p := mixed(&mix, n, all).save()
		for i := range p {
			refusedBytes(t, p[:i:i], api.ErrText, "cut short")
		}
		for _, more := range []int{1, 8, 32, 80, 112, 1000} {
			refusedBytes(t, append(slices.Clone(p), make([]byte, more)...), api.ErrText, "%d bytes behind it", more)
			refusedBytes(t, append(make([]byte, more), p...), api.ErrText, "%d bytes ahead of it", more)
		}
		// As many bytes as another count asks for.
		for other := range api.MaxSections + 1 {
			if other != n {
				refusedBytes(t, turned(p, 5, byte(other)), api.ErrText, "%d sections for %d", other, n)
			}
		}
		loaded(t, p)
	}
	refusedBytes(t, nil, api.ErrText, "no bytes")
	refusedBytes(t, []byte{}, api.ErrText, "no bytes")
	refusedBytes(t, []byte("QVS1\x00"), api.ErrText, "five bytes")
	refusedBytes(t, []byte("QVS1\x00\x00"), api.ErrText, "six bytes")
	refusedBytes(t, []byte{255, 255, 255, 255, 255}, api.ErrText, "five wrong bytes")
	refusedBytes(t, []byte{255, 255, 255, 255, 255, 16}, api.ErrText, "six wrong bytes")
	refusedBytes(t, []byte{255, 255, 255, 255, 255, 17}, api.ErrLong, "six wrong bytes")
}

// turned is p with other bytes from a place on.
func turned(p []byte, place int, b ...byte) []byte {
	p = slices.Clone(p)
	copy(p[place:], b)
	return p
}

// set is p with another word at a place.
func set(p []byte, place int, word uint64) []byte {
	return turned(p, place, binary.BigEndian.AppendUint64(nil, word)...)
}

func TestLoadOfAWrongMark(t *testing.T) {
	mix := trial.Mixer(324)
	for _, n := range []int{0, 1, 3} {
		p := mixed(&mix, n, none).save()
		for i, letter := range []byte("QVS1") {
			for b := range 256 {
				if byte(b) != letter {
					refusedBytes(t, turned(p, i, byte(b)), api.ErrText, "the letter %x at %d", b, i)
				}
			}
		}
		refusedBytes(t, turned(p, 0, []byte("1SVQ")...), api.ErrText, "the letters turned round")
	}
}

func TestLoadOfEveryGuard(t *testing.T) {
	mix := trial.Mixer(325)
	for _, n := range []int{0, 1, 3} {
		m := newTwin(mix.Filter(n), none)
		p := m.save()
		for b := range 256 {
			if b > 7 {
				refusedBytes(t, turned(p, 4, byte(b)), api.ErrText, "the guard %d", b)
				continue
			}
			other := newTwin(m.Filter, trial.Guards()[b])
			s := loaded(t, turned(p, 4, byte(b)))
			stands(t, s, other, "P20.5: the guard %d", b)
			like(t, s, other, mix.Samples(4))
		}
	}
}

func TestLoadOfTooManySections(t *testing.T) {
	mix := trial.Mixer(326)
	loaded(t, mixed(&mix, api.MaxSections, all).save())
	// With as many bytes as that many sections would have, and nothing else wrong.
	for _, n := range []int{17, 18, 100, 255} {
		f := api.Filter{Gain: 1, Sections: make([]api.Section, n)}
		refusedBytes(t, table(f, all, 1, 2, make([]api.State, n)...), api.ErrLong, "%d sections", n)
	}
	// Beside each of the other errors.
	p := turned(mixed(&mix, 1, all).save(), 5, 17)
	for _, wrong := range [][]byte{
		p, p[:len(p)-1], p[:6], p[:7], p[:22], append(slices.Clone(p), 0), append(slices.Clone(p), make([]byte, 16*112)...),
		turned(p, 0, 'q'), turned(p, 1, 0), turned(p, 2, 255), turned(p, 3, '2'), turned(p, 4, 8), turned(p, 4, 255),
		set(p, 6, 0x7ff0000000000000), set(p, 22, 0x7ff8000000000001), set(p, len(p)-8, 0x7ff8000000000002),
	} {
		refusedBytes(t, wrong, api.ErrLong, "17 sections beside another error")
	}
	for n := 17; n < 256; n++ {
		refusedBytes(t, turned(p, 5, byte(n)), api.ErrLong, "%d sections", n)
	}
}

// words of floats that are not finite, and of NaNs that Save does not write.
func wrongWords() (endless, nans []uint64) {
	nans = []uint64{0x7ff8000000000000, 0x7ff8000000000002, 0x7ff8000000000003, 0x7ff8000000000101, 0xfff8000000000001, 0x7ff0000000000001, 0xfff0000000000001, 0x7fffffffffffffff, math.MaxUint64}
	return append([]uint64{0x7ff0000000000000, 0xfff0000000000000, 0x7ff8000000000001}, nans...), nans
}

func TestLoadOfStates(t *testing.T) {
	mix := trial.Mixer(327)
	_, nans := wrongWords()
	for _, n := range []int{1, 2, api.MaxSections} {
		m := mixed(&mix, n, none)
		for i := range m.States {
			m.States[i] = api.State{S1: 1, S2: 2}
		}
		p := m.save()
		for i := range 4 * n {
			place := len(p) - 8*(i+1)
			for _, word := range nans {
				refusedBytes(t, set(p, place, word), api.ErrText, "the NaN %x in part %d of the states from behind", word, i)
			}
			for _, word := range []uint64{0x7ff8000000000001, 0x7ff0000000000000, 0xfff0000000000000, 0x7fefffffffffffff, 1, 1 << 63, 1<<63 | 1, 0} {
				q := set(p, place, word)
				if got := loaded(t, q).Save(); !slices.Equal(got, q) {
					t.Errorf("P20.5: the state's part %x is saved as % x", word, got[place:place+8])
				}
			}
		}
		// The counts ahead of the states are no floats.
		for _, word := range nans {
			for _, place := range []int{22 + 80*n, 30 + 80*n} {
				q := set(p, place, word)
				if got := loaded(t, q).Save(); !slices.Equal(got, q) {
					t.Errorf("P20.5: the count %x is saved as % x", word, got[place:place+8])
				}
			}
		}
	}
}

func TestLoadOfWhatIsNotFinite(t *testing.T) {
	mix := trial.Mixer(328)
	endless, nans := wrongWords()
	for _, n := range []int{0, 1, 2, api.MaxSections} {
		p := mixed(&mix, n, all).save()
		for i := range 2 + 10*n {
			place := 6 + 8*i
			for _, word := range endless {
				q := set(p, place, word)
				refusedBytes(t, q, api.ErrNaN, "the float %x at %d", word, i)
				// ErrText goes first, whatever is wrong.
				refusedBytes(t, q[:len(q)-1], api.ErrText, "the float %x at %d, cut short", word, i)
				refusedBytes(t, append(slices.Clone(q), 0), api.ErrText, "the float %x at %d, a byte too many", word, i)
				refusedBytes(t, turned(q, i%4, 'x'), api.ErrText, "the float %x at %d, a wrong letter", word, i)
				refusedBytes(t, turned(q, 4, 8), api.ErrText, "the float %x at %d, a wrong guard", word, i)
				if n > 0 {
					refusedBytes(t, set(q, len(q)-8*(1+i%(4*n)), nans[i%len(nans)]), api.ErrText, "the float %x at %d, a wrong NaN", word, i)
				}
			}
			// The greatest numbers are finite.
			for _, word := range []uint64{0x7fefffffffffffff, 0xffefffffffffffff, 1, 1 << 63} {
				q := set(p, place, word)
				if got := loaded(t, q).Save(); !slices.Equal(got, q) {
					t.Errorf("P20.5: the float %x is saved as % x", word, got[place:place+8])
				}
			}
		}
	}
}

func TestLoadOfAnyBytes(t *testing.T) {
	// Bytes at random end as they must: what is not refused is saved as it was.
	mix := trial.Mixer(329)
	kept := 0
	var tables [][]byte
	for _, g := range trial.Guards() {
		for n := range 4 {
			tables = append(tables, mixed(&mix, n, g).save())
		}
	}
	for range 20000 {
		p := slices.Clone(tables[mix.Below(len(tables))])
		for range 1 + mix.Below(2) {
			p[mix.Below(len(p))] = byte(mix.Bits())
		}
		s, e := stream.Load(p)
		switch {
		case (s == nil) != (e != api.OK):
			t.Fatalf("P1: Load(% x): %v, %d", p, s, e)
		case e == api.OK:
			kept++
			if !slices.Equal(s.Save(), p) {
				t.Fatalf("P20.5: % x is saved as % x", p, s.Save())
			}
		case e != api.ErrText && e != api.ErrNaN && e != api.ErrLong:
			t.Fatalf("P20.5: Load(% x): %d", p, e)
		}
	}
	if kept < 5000 {
		t.Errorf("only %d were not refused", kept)
	}
}
