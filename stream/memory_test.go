package stream_test

import (
	"bytes"
	"slices"
	"sync"
	"testing"

	"quaver/api"
	"quaver/stream"
	"quaver/trial"
)

func TestFork(t *testing.T) {
	mix := trial.Mixer(341)
	for round := range 20 {
		for _, g := range trial.Guards() {
			f := mix.Filter(round % 4)
			s, m := made(t, f, g), newTwin(f, g)
			like(t, s, m, mix.Samples(2))
			fork, other := s.Fork(), m.fork()
			stands(t, fork, other, "P20.6: a fork")
			like(t, s, m, mix.Samples(2))
			stands(t, fork, other, "P20.6: the fork, behind what is done with the stream")
			like(t, fork, other, mix.Samples(3))
			stands(t, s, m, "P20.6: the stream, behind what is done with the fork")
			third, another := fork.Fork(), other.fork()
			for i := range 3 {
				xs := mix.Samples(i)
				like(t, s, m, xs)
				like(t, fork, other, xs, xs)
				are(t, asked(t, third, xs), another.push(xs), "P20.6: Seq of a fork's fork")
				stands(t, third, another, "P20.6: a fork's fork")
			}
		}
	}
	// At rest, and without sections.
	s, m := made(t, api.Filter{Gain: 2}, none), newTwin(api.Filter{Gain: 2}, none)
	fork, other := s.Fork(), m.fork()
	like(t, s, m, list(1))
	like(t, fork, other, list(2, 3))
	stands(t, s, m, "P20.6: the stream, behind what is done with the fork")
}

func TestNilStream(t *testing.T) {
	var s *stream.Stream
	for _, xs := range [][]complex128{nil, {}, list(1), list(complex(nan, infinity), least)} {
		if got := s.Push(xs); len(got) != 0 {
			t.Errorf("a nil stream: Push(%v) = %v", xs, got)
		}
		seq := s.Seq(xs)
		if seq == nil {
			t.Fatal("a nil stream: Seq is no sequence")
		}
		for range 2 {
			for i, y := range seq {
				t.Errorf("a nil stream: Seq(%v) hands over %d, %v", xs, i, y)
			}
		}
	}
	if s.At() != 0 || len(s.Save()) != 0 || s.Fork() != nil {
		t.Errorf("a nil stream tells %d, % x, %v", s.At(), s.Save(), s.Fork())
	}
}

func TestNoneOfNewPanics(t *testing.T) {
	// Of these nothing is promised but that they end.
	var empty stream.Stream
	shared := *made(t, half(), all)
	for _, s := range []*stream.Stream{&empty, &shared} {
		for range 2 {
			s.Push(list(1, complex(nan, 0)))
			for range s.Seq(list(1, 2)) {
				s.Fork().Push(list(1))
			}
			s.At()
			stream.Load(s.Save())
		}
	}
}

// calls answers what a stream tells, in lists: args are the gain, the sections' coefficients and samples.
func calls(args [][]complex128) [][]complex128 {
	f := api.Filter{Gain: args[0][0]}
	for c := range slices.Chunk(args[1], 5) {
		f.Sections = append(f.Sections, trial.Section(c))
	}
	s, e := stream.New(f, all)
	clear(f.Sections)
	told := [][]complex128{list(complex(float64(e), 0))}
	for range 2 {
		told = append(told, s.Push(args[2]))
		fork := s.Fork()
		var answers, saved []complex128
		for _, y := range s.Seq(args[2]) {
			answers = append(answers, y)
		}
		for _, b := range s.Save() {
			saved = append(saved, complex(float64(b), 0))
		}
		told = append(told, answers, saved, fork.Push(args[2]), list(complex(float64(s.At()), 0)))
		s, e = stream.Load(s.Save())
		told = append(told, list(complex(float64(e), 0)))
	}
	return told
}

func TestMemory(t *testing.T) {
	mix := trial.Mixer(342)
	for n := range 4 {
		for _, xs := range [][]complex128{nil, {}, list(1), mix.Numbers(7, mix.Middle), mix.Few(4), mix.Numbers(5, mix.Float)} {
			if fault := trial.TouchedLists(calls, mix.Numbers(1, mix.Middle), mix.Numbers(5*n, mix.Middle), xs); fault != "" {
				t.Errorf("Memory: %d sections, %v: %s", n, xs, fault)
			}
		}
	}
	if fault := trial.BesideLists(calls, list(2), mix.Numbers(15, mix.Middle), mix.Samples(50)); fault != "" {
		t.Errorf("P2: %s", fault)
	}
}

func TestMemoryOfFilters(t *testing.T) {
	mix := trial.Mixer(343)
	f := mix.Filter(3)
	spare := api.Section{B0: 77, A2: -77}
	roomy := append(slices.Clone(f.Sections), spare, spare)
	s, m := made(t, api.Filter{Gain: f.Gain, Sections: roomy[:3]}, all), newTwin(f, all)
	if !slices.EqualFunc(roomy, append(slices.Clone(f.Sections), spare, spare), trial.AlikeSection) {
		t.Error("Memory: New changed the sections that were handed in")
	}
	fork := s.Fork()
	clear(roomy) // what was handed in may be written over
	stands(t, s, m, "Memory: the sections are written over")
	stands(t, fork, m, "Memory: the sections are written over")
	like(t, fork, m.fork(), mix.Samples(3))
	like(t, s, m, mix.Numbers(5, mix.Middle), mix.Samples(4))
}

// scrawlBytes writes over all bytes, the spare room too.
func scrawlBytes(p []byte) {
	p = p[:cap(p)]
	for i := range p {
		p[i] ^= 0xa5
	}
}

func TestMemoryOfBytes(t *testing.T) {
	mix := trial.Mixer(344)
	for _, n := range []int{0, 1, 3, 16} {
		f := mix.Filter(n)
		s, m := made(t, f, all), newTwin(f, all)
		for range 3 {
			like(t, s, m, mix.Samples(3))
			want := m.save()
			// What Load is given.
			spare := []byte("spare room")
			p := append(slices.Clone(want), spare...)
			back := loaded(t, p[:len(want):len(p)])
			if !bytes.Equal(p, append(slices.Clone(want), spare...)) {
				t.Fatal("Memory: Load changed the bytes that were handed in")
			}
			scrawlBytes(p)
			stands(t, back, m, "Memory: the bytes that were loaded are written over")
			xs := mix.Samples(2)
			are(t, back.Push(xs), m.fork().push(xs), "Memory: the bytes that were loaded are written over")
			// What Save answers.
			one, other := s.Save(), s.Save()
			scrawlBytes(one)
			if !bytes.Equal(other, want) {
				t.Fatal("Memory: two answers of Save share memory")
			}
			stands(t, s, m, "Memory: Save hands out what is kept")
			s.Push(xs)
			m.push(xs)
			if !bytes.Equal(other, want) {
				t.Fatal("Memory: an answer of Save goes on with the stream")
			}
		}
	}
	// Bytes that are refused.
	const wrong = "QVS1\x08\x00 and more"
	p := []byte(wrong)
	if stream.Load(p); string(p) != wrong {
		t.Error("Memory: Load changed the bytes that were handed in")
	}
}

func TestMemoryOfAnswers(t *testing.T) {
	mix := trial.Mixer(345)
	f, xs := mix.Filter(2), mix.Numbers(5, mix.Middle)
	s, m := made(t, f, none), newTwin(f, none)
	got, want := s.Push(xs), m.push(xs)
	for range 3 {
		// An answer may be pushed again, and is nothing but an answer.
		next := s.Push(got)
		want = m.push(want)
		trial.ScrawlList(got)
		are(t, next, want, "Memory: the answers pushed again")
		stands(t, s, m, "Memory: the answers pushed again")
		got = next
	}
}

func TestStreamsBesideEachOther(t *testing.T) {
	mix := trial.Mixer(346)
	f, xs := mix.Filter(4), mix.Samples(200)
	first := made(t, f, all)
	first.Push(xs[:100])
	var forks []*stream.Stream
	for range 16 {
		forks = append(forks, first.Fork())
	}
	got, saved := make([][]complex128, 16), make([][]byte, 16)
	var group sync.WaitGroup
	for i, s := range forks {
		group.Go(func() {
			for _, y := range s.Seq(xs) {
				got[i] = append(got[i], y)
			}
			saved[i] = s.Save()
		})
	}
	group.Wait()
	want := first.Push(xs)
	for i, answers := range got {
		are(t, answers, want, "P2: forks that run beside each other")
		if !bytes.Equal(saved[i], first.Save()) {
			t.Errorf("P2: saved beside others as % x, alone as % x", saved[i], first.Save())
		}
	}
}
