package stream_test

import (
	"bytes"
	"math"
	"slices"
	"testing"

	"quaver/api"
	"quaver/trial"
)

func TestSaveByHand(t *testing.T) {
	f := api.Filter{Gain: complex(1, -2), Sections: []api.Section{{B0: complex(0, minus), B1: complex(4, 8), B2: complex(16, 32), A1: complex(least, -least), A2: complex(64, -0.5)}}}
	s := made(t, f, api.Guard{Clip: true, Mute: true})
	word := func(b ...byte) []byte { return append(b, make([]byte, 8-len(b))...) }
	front := slices.Concat([]byte{'Q', 'V', 'S', '1', 6, 1},
		word(0x3f, 0xf0), word(0xc0), // 1, -2
		word(), word(0x80), // +0, -0
		word(0x40, 0x10), word(0x40, 0x20), // 4, 8
		word(0x40, 0x30), word(0x40, 0x40), // 16, 32
		[]byte{0, 0, 0, 0, 0, 0, 0, 1}, []byte{0x80, 0, 0, 0, 0, 0, 0, 1}, // 2^-1074, -2^-1074
		word(0x40, 0x50), word(0xbf, 0xe0)) // 64, -1/2
	if got, want := s.Save(), slices.Concat(front, word(), word(), word(), word(), word(), word()); !bytes.Equal(got, want) {
		t.Fatalf("P20.4: at rest\n% x, want\n% x", got, want)
	}
	// v = 1 - 2i and y = 0: S1 = (4 + 8i) (1 - 2i) = 20, S2 = (16 + 32i) (1 - 2i) = 80.
	s.Push(list(1))
	at := []byte{0, 0, 0, 0, 0, 0, 0, 1}
	if got, want := s.Save(), slices.Concat(front, at, word(), word(0x40, 0x34), word(), word(0x40, 0x54), word()); !bytes.Equal(got, want) {
		t.Fatalf("P20.4: behind a sample\n% x, want\n% x", got, want)
	}
}

func TestSaveOfAllKinds(t *testing.T) {
	mix := trial.Mixer(311)
	for _, n := range []int{0, 1, 2, api.MaxSections} {
		for b, g := range trial.Guards() {
			f := mix.Filter(n)
			s, m := made(t, f, g), newTwin(f, g)
			stands(t, s, m, "P20.4: at rest, %d sections, %v", n, g)
			p := s.Save()
			if len(p) != 38+112*n || p[4] != byte(b) || p[5] != byte(n) {
				t.Fatalf("P20.4: %d bytes of %d sections, the guard %d: % x", len(p), n, b, p[:6])
			}
			like(t, s, m, mix.Samples(1), mix.Samples(3), mix.Numbers(3, mix.Middle))
		}
	}
}

func TestSaveOfEveryByte(t *testing.T) {
	// Bits that are unlike in all bytes show the order of bytes.
	x, y := math.Float64frombits(0x0123456789abcdef), math.Float64frombits(0xfedcba9876543210)
	p := made(t, api.Filter{Gain: complex(x, y)}, none).Save()
	want := []byte{0x01, 0x23, 0x45, 0x67, 0x89, 0xab, 0xcd, 0xef, 0xfe, 0xdc, 0xba, 0x98, 0x76, 0x54, 0x32, 0x10}
	if !bytes.Equal(p[6:22], want) {
		t.Errorf("P20.4: the gain's bytes are % x, want % x", p[6:22], want)
	}
	// Counts too, and those that are no float's bits.
	at, changed := uint64(0x0123456789abcdef), uint64(0x7ff8123456789abc)
	told := table(api.Filter{Gain: 1}, none, at, changed)
	if got := loaded(t, told); got.At() != at || !bytes.Equal(got.Save(), told) {
		t.Errorf("P20.4: At %x, saved as % x, want % x", got.At(), got.Save(), told)
	}
}

func TestSaveOfStates(t *testing.T) {
	type step struct {
		name    string
		section api.Section
		samples []complex128
		state   api.State
	}
	// B1 makes S1 of a sample, and B2 makes S2; S2 becomes S1.
	plain, wide, less := api.Section{B1: 1, B2: 1}, api.Section{B1: 2, B2: 4}, api.Section{B1: 0.5, B2: 0.5}
	for _, c := range []step{
		{"subnormal parts", plain, list(complex(3*least, -least)), api.State{S1: complex(3*least, -least), S2: complex(3*least, -least)}},
		{"-0 beside +0", less, list(complex(-least, least), complex(-least, least)), api.State{S1: complex(minus, 0), S2: complex(minus, 0)}},
		{"+0 beside -0", less, list(complex(-least, -least), complex(-least, -least)), api.State{S1: complex(0, minus), S2: complex(0, minus)}},
		{"an infinity in one part of S2", wide, list(greatest / 2), api.State{S1: greatest, S2: complex(infinity, 0)}},
		{"an infinity in the other part", wide, list(complex(0, -greatest/2)), api.State{S1: complex(0, -greatest), S2: complex(0, -infinity)}},
		{"a NaN in one part of S1", wide, list(greatest/2, -greatest), api.State{S1: complex(nan, 0), S2: complex(-infinity, 0)}},
		{"a NaN in the other part", wide, list(complex(0, greatest/2), complex(0, -greatest)), api.State{S1: complex(0, nan), S2: complex(0, -infinity)}},
		{"a NaN in one part of S2", api.Section{B2: complex(2, 2)}, list(complex(greatest, greatest)), api.State{S2: complex(nan, infinity)}},
		{"NaNs of other bits", plain, list(complex(odd, odd)), api.State{S1: complex(nan, nan), S2: complex(nan, nan)}},
	} {
		f := api.Filter{Gain: 1, Sections: []api.Section{c.section}}
		s, m := made(t, f, none), newTwin(f, none)
		s.Push(c.samples)
		m.push(c.samples)
		if got := m.States[0]; !trial.AlikeState(got, c.state) {
			t.Fatalf("%s: the samples leave %v, not %v", c.name, got, c.state)
		}
		stands(t, s, m, "P20.4: %s", c.name)
		back := loaded(t, s.Save())
		stands(t, back, m, "P20.5: %s", c.name)
		like(t, back, m, list(1, complex(minus, 2)))
	}
}

func TestSaveOfEveryState(t *testing.T) {
	// Every part beside every other one, in each place of a state.
	f := api.Filter{Gain: 1, Sections: []api.Section{{B0: 1, A1: -0.5}, {B0: 2}}}
	for _, x := range trial.Edges() {
		for _, y := range trial.Edges() {
			a := complex(x, y)
			for i := range 4 {
				m := newTwin(f, none)
				if i%2 == 0 {
					m.States[i/2].S1 = a
				} else {
					m.States[i/2].S2 = a
				}
				p := m.save()
				s := loaded(t, p)
				stands(t, s, m, "P20.5: the state %v, %d", a, i)
				are(t, s.Fork().Push(list(1, 0)), m.fork().push(list(1, 0)), "P20.5: the state %v, %d", a, i)
			}
		}
	}
}

func TestSaveWritesOneNaN(t *testing.T) {
	// Whatever NaN came: both signs, quiet ones and others, by the sample's parts.
	one := []byte{0x7f, 0xf8, 0, 0, 0, 0, 0, 1}
	for _, bits := range []uint64{0x7ff8000000000001, 0x7ff8000000000000, 0xfff8000000000001, 0x7ff0000000000001, 0xfff0000000000123, math.MaxUint64, 0x7fffffffffffffff} {
		for _, a := range list(complex(math.Float64frombits(bits), 0), complex(1, math.Float64frombits(bits)), complex(math.Float64frombits(bits), math.Float64frombits(bits))) {
			s := made(t, half(), none)
			s.Push(list(a))
			p := s.Save()
			if got := p[len(p)-32:]; !bytes.Equal(got, slices.Repeat(one, 4)) {
				t.Errorf("P20.4: the NaN %x is saved as % x", bits, got)
			}
			loaded(t, p)
		}
	}
}

func TestSaveChangesNothing(t *testing.T) {
	mix := trial.Mixer(312)
	for n := range 4 {
		f, xs := mix.Filter(n), mix.Samples(6)
		s, m := made(t, f, all), newTwin(f, all)
		for _, x := range xs {
			s.Save()
			stands(t, s, m, "P20.4: Save twice")
			like(t, s, m, list(x))
		}
	}
}
