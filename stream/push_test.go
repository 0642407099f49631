package stream_test

import (
	"bytes"
	"slices"
	"testing"

	"quaver/api"
	"quaver/guard"
	"quaver/stream"
	"quaver/trial"
)

func TestExamples(t *testing.T) {
	s := made(t, api.Filter{Gain: 2}, none)
	are(t, s.Push(list(1, 2)), list(2, 4), "example 1: Push(1, 2)")
	if s.At() != 2 {
		t.Errorf("example 1: At %d", s.At())
	}
	want := slices.Concat([]byte{0x51, 0x56, 0x53, 0x31, 0, 0, 0x40, 0}, make([]byte, 14), make([]byte, 7), []byte{2}, make([]byte, 8))
	if got := s.Save(); len(want) != 38 || !bytes.Equal(got, want) {
		t.Errorf("example 1: % x, want % x", got, want)
	}

	if got := loaded(t, want); got.At() != 2 {
		t.Errorf("example 2: At %d", got.At())
	}
	turned := func(place int, b ...byte) []byte {
		p := slices.Clone(want)
		copy(p[place:], b)
		return p
	}
	refusedBytes(t, want[:37], api.ErrText, "example 2")
	refusedBytes(t, turned(3, 0x32), api.ErrText, "example 2")
	refusedBytes(t, turned(5, 0x11), api.ErrLong, "example 2")
	refusedBytes(t, turned(6, 0x7f, 0xf0), api.ErrNaN, "example 2")
	refusedBytes(t, nil, api.ErrText, "example 2")

	var got []complex128
	for i, y := range s.Seq(list(1, 2, 3)) {
		got = append(got, y)
		if i == 1 {
			break
		}
	}
	are(t, got, list(2, 4), "example 3")
	if s.At() != 4 {
		t.Errorf("example 3: At %d", s.At())
	}
}

// refused: does New answer this error, and nothing beside it, whatever the guard?
func refused(t *testing.T, f api.Filter, want api.Errno) {
	t.Helper()
	for _, g := range trial.Guards() {
		if s, e := stream.New(f, g); e != want || (s == nil) != (want != api.OK) {
			t.Errorf("P20.1: New of %d sections, the gain %v, %v: %v, %d, want %d", len(f.Sections), f.Gain, g, s, e, want)
		}
	}
}

func TestNew(t *testing.T) {
	mix := trial.Mixer(301)
	for _, n := range []int{0, 1, 2, 15, 16} {
		f := mix.Filter(n)
		refused(t, f, api.OK)
		for _, g := range trial.Guards() {
			s, m := made(t, f, g), newTwin(f, g)
			stands(t, s, m, "P20.1: New of %d sections, %v", n, g)
			like(t, s, m, mix.Samples(2))
		}
	}
	for _, n := range []int{17, 18, 256, 272, 1000} {
		refused(t, api.Filter{Gain: 1, Sections: make([]api.Section, n)}, api.ErrLong)
	}
	refused(t, api.Filter{Gain: 1, Sections: []api.Section{}}, api.OK)
	// The ends of the format are finite, and stand as they are, whatever the guard would make of them.
	for _, z := range append(trial.Signs(greatest, least), trial.Noughts()...) {
		f := api.Filter{Gain: z, Sections: []api.Section{{B0: z, B1: z, B2: z, A1: z, A2: z}}}
		refused(t, f, api.OK)
		s, m := made(t, f, all), newTwin(f, all)
		stands(t, s, m, "P20.1: New of the gain %v", z)
		like(t, s, m, list(0x1p-1000, 0x1p1000, complex(0x1p60, -0x1p60)))
	}
}

func TestErrors(t *testing.T) {
	for _, bad := range trial.Endless() {
		refused(t, api.Filter{Gain: bad}, api.ErrNaN)
		refused(t, api.Filter{Gain: bad, Sections: make([]api.Section, 16)}, api.ErrNaN)
		refused(t, api.Filter{Gain: bad, Sections: make([]api.Section, 17)}, api.ErrLong)
		for i := range 5 {
			c := make([]complex128, 5)
			c[i] = bad
			for _, n := range []int{1, 2, 16, 17} {
				want := api.ErrNaN
				if n > api.MaxSections {
					want = api.ErrLong
				}
				for _, place := range []int{0, n / 2, n - 1} {
					f := api.Filter{Gain: 1, Sections: make([]api.Section, n)}
					f.Sections[place] = trial.Section(c)
					refused(t, f, want)
				}
			}
		}
	}
}

func TestPush(t *testing.T) {
	mix := trial.Mixer(302)
	for round := range 100 {
		f := mix.Filter(round % 4)
		for _, g := range trial.Guards() {
			like(t, made(t, f, g), newTwin(f, g), nil, mix.Samples(3), nil, mix.Samples(1), list(), mix.Samples(2))
		}
	}
	for _, n := range []int{5, api.MaxSections - 1, api.MaxSections} {
		for _, g := range trial.Guards() {
			f := mix.Filter(n)
			like(t, made(t, f, g), newTwin(f, g), mix.Samples(4), mix.Samples(2))
		}
	}
}

func TestAsGuard(t *testing.T) {
	mix := trial.Mixer(303)
	for round := range 40 {
		f := mix.Filter(round % (api.MaxSections + 1))
		for _, g := range trial.Guards() {
			s := made(t, f, g)
			d, e := guard.New(f, g)
			if e != api.OK {
				t.Fatalf("P19.2: New: %d", e)
			}
			var at uint64
			for _, n := range []int{0, 1, 30, 0, 2, 5} {
				xs := mix.Samples(n)
				at += uint64(n)
				are(t, s.Push(xs), d.Run(xs), "P20.2: Push(%x) of %x, %v, against guard's Run", xs, f, g)
				if got, want := s.Save(), table(f, g, at, d.Changed(), d.States()...); !bytes.Equal(got, want) {
					t.Fatalf("P20.4: behind Push(%x) of %x, %v: saved as\n% x, want\n% x", xs, f, g, got, want)
				}
			}
		}
	}
}

func TestNothingButTheGuards(t *testing.T) {
	endless, double := complex(infinity, 0), api.Filter{Gain: 1, Sections: []api.Section{{B0: 2}}}
	spoilt := complex(nan, nan)
	for _, c := range []struct {
		f    api.Filter
		x    complex128
		rule func(g api.Guard) (first, next complex128, changed byte)
	}{
		// A state that is subnormal.
		{half(), low, func(g api.Guard) (complex128, complex128, byte) {
			if g.Flush {
				return low, 0, 1
			}
			return low, low / 2, 0
		}},
		// An answer that is infinite, and NaNs in all parts of the states behind it.
		{double, greatest, func(g api.Guard) (complex128, complex128, byte) {
			switch {
			case g.Clip && g.Mute:
				return greatest, 0, 5
			case g.Clip:
				return greatest, spoilt, 1
			case g.Mute:
				return endless, 0, 4
			}
			return endless, spoilt, 0
		}},
		// A NaN.
		{half(), spoilt, func(g api.Guard) (complex128, complex128, byte) {
			if g.Mute {
				return 0, 0, 6
			}
			return spoilt, spoilt, 0
		}},
	} {
		for _, g := range trial.Guards() {
			s := made(t, c.f, g)
			first, next, changed := c.rule(g)
			are(t, s.Push(list(c.x)), list(first), "P6: the answer to %v, %v", c.x, g)
			p := s.Save()
			if count := p[4+1+1+16+80+8:][:8]; !bytes.Equal(count, []byte{0, 0, 0, 0, 0, 0, 0, changed}) {
				t.Errorf("P6: behind %v, %v: % x parts changed, want %d", c.x, g, count, changed)
			}
			are(t, s.Push(list(0)), list(next), "P6: the answer to 0 behind %v, %v", c.x, g)
		}
	}
	// Without sections nothing is cleaned.
	for _, g := range trial.Guards() {
		s := made(t, api.Filter{Gain: 1}, g)
		for _, x := range trial.Edges() {
			for _, y := range trial.Edges() {
				a := complex(x, y)
				are(t, s.Push(list(a)), list(trial.Product(1, a)), "P6: Push(%v) without sections, %v", a, g)
			}
		}
	}
}

func TestAt(t *testing.T) {
	s := made(t, half(), all)
	var want uint64
	is := func(name string, s *stream.Stream) {
		t.Helper()
		if got := s.At(); got != want {
			t.Fatalf("P20.2: %s: At %d, want %d", name, got, want)
		}
	}
	is("at rest", s)
	for _, n := range []int{0, 1, 5, 0, 300, 70000} {
		s.Push(make([]complex128, n))
		want += uint64(n)
		is("behind Push", s)
	}
	asked(t, s, make([]complex128, 7))
	want += 7
	is("behind Seq", s)
	for range s.Seq(list(1, 2, 3)) {
		want++
		is("between two answers", s)
		break
	}
	other, fork := loaded(t, s.Save()), s.Fork()
	is("loaded", other)
	is("forked", fork)
	s.Push(list(1, 2))
	is("loaded, the other one pushed", other)
	is("forked, the other one pushed", fork)
	other.Push(list(1))
	fork.Push(list(1))
	want++
	is("loaded and pushed", other)
	is("forked and pushed", fork)
	// Modulo 2^64.
	over := loaded(t, table(half(), all, 1<<64-2, 0, api.State{}))
	want = 1<<64 - 2
	is("loaded at 2^64 - 2", over)
	over.Push(list(1))
	want = 1<<64 - 1
	is("at 2^64 - 1", over)
	over.Push(list(1, 2, 3))
	want = 2
	is("behind 2^64", over)
	stands(t, over, func() *twin {
		m := newTwin(half(), all)
		m.push(list(1, 1, 2, 3))
		m.at = 2
		return m
	}(), "P20.2: behind 2^64")
}

// piece hands samples to a stream by Push or by Seq.
func piece(t *testing.T, s *stream.Stream, samples []complex128, bySeq bool) []complex128 {
	t.Helper()
	if bySeq {
		return asked(t, s, samples)
	}
	return s.Push(samples)
}

func TestCutAnyhow(t *testing.T) {
	mix := trial.Mixer(304)
	for round := range 8 {
		f, xs := mix.Filter(round%4), append(mix.Samples(5), mix.Samples(3)...)
		for _, g := range trial.Guards() {
			whole := made(t, f, g)
			want := whole.Push(xs)
			for i := range len(xs) + 1 {
				for j := i; j <= len(xs); j++ {
					s := made(t, f, g)
					how := mix.Below(8)
					got := piece(t, s, xs[:i], how&1 > 0)
					old := s
					switch mix.Below(3) {
					case 0:
						s = loaded(t, s.Save())
					case 1:
						s = s.Fork()
					}
					if s != old && mix.Below(2) == 0 {
						old.Push(xs[j:]) // is not seen by s
					}
					got = slices.Concat(got, piece(t, s, xs[i:j], how&2 > 0), piece(t, s, xs[j:], how&4 > 0))
					are(t, got, want, "P20.3: %x, cut at %d and %d", xs, i, j)
					if !bytes.Equal(s.Save(), whole.Save()) {
						t.Fatalf("P20.3: %x, cut at %d and %d: saved as\n% x, want\n% x", xs, i, j, s.Save(), whole.Save())
					}
				}
			}
		}
	}
}

func TestSampleBySample(t *testing.T) {
	mix := trial.Mixer(305)
	for _, n := range []int{0, 1, 3, api.MaxSections} {
		for _, g := range trial.Guards() {
			f, xs := mix.Filter(n), mix.Samples(20)
			whole, s := made(t, f, g), made(t, f, g)
			want := whole.Push(xs)
			for i, x := range xs {
				are(t, s.Push(list(x)), want[i:i+1], "P20.3: sample by sample, at %d", i)
				s = loaded(t, s.Fork().Save())
			}
			if !bytes.Equal(s.Save(), whole.Save()) {
				t.Fatalf("P20.3: sample by sample, saved as\n% x, want\n% x", s.Save(), whole.Save())
			}
		}
	}
}
