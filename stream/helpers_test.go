package stream_test

import (
	"bytes"
	"encoding/binary"
	"math"
	"slices"
	"testing"

	"quaver/api"
	"quaver/stream"
	"quaver/trial"
)

const (
	least    = trial.Least
	low      = trial.LeastNormal
	greatest = trial.Greatest
)

var (
	minus    = math.Copysign(0, -1)
	infinity = math.Inf(1)
	nan      = math.NaN()
	odd      = math.Float64frombits(0xfff8000000000123) // a NaN of other bits
	none     = api.Guard{}
	all      = api.Guard{Flush: true, Clip: true, Mute: true}
)

// list is these numbers.
func list(numbers ...complex128) []complex128 {
	return numbers
}

// half is the filter whose answers halve.
func half() api.Filter {
	return api.Filter{Gain: 1, Sections: []api.Section{{B0: 1, A1: -0.5}}}
}

// made is a stream that New does not refuse.
func made(t *testing.T, f api.Filter, g api.Guard) *stream.Stream {
	t.Helper()
	s, e := stream.New(f, g)
	if e != api.OK || s == nil {
		t.Fatalf("P20.1: New(%v, %v): %v, %d", f, g, s, e)
	}
	return s
}

// loaded is a stream that Load does not refuse.
func loaded(t *testing.T, p []byte) *stream.Stream {
	t.Helper()
	s, e := stream.Load(p)
	if e != api.OK || s == nil {
		t.Fatalf("P20.5: Load(% x): %v, %d", p, s, e)
	}
	return s
}

// numbered writes numbers as P20.4 tells it.
func numbered(p []byte, numbers ...complex128) []byte {
	for _, a := range numbers {
		for _, x := range []float64{real(a), imag(a)} {
			if math.IsNaN(x) {
				p = append(p, 0x7f, 0xf8, 0, 0, 0, 0, 0, 1)
			} else {
				p = binary.BigEndian.AppendUint64(p, math.Float64bits(x))
			}
		}
	}
	return p
}

// table is the table of P20.4, row by row.
func table(f api.Filter, g api.Guard, at, changed uint64, states ...api.State) []byte {
	p := append([]byte("QVS1"), byte(slices.IndexFunc(trial.Guards(), func(h api.Guard) bool { return h == g })), byte(len(f.Sections)))
	p = numbered(p, f.Gain)
	for _, s := range f.Sections {
		p = numbered(p, trial.Row(s)...)
	}
	p = binary.BigEndian.AppendUint64(p, at)
	p = binary.BigEndian.AppendUint64(p, changed)
	for _, st := range states {
		p = numbered(p, st.S1, st.S2)
	}
	return p
}

// twin is a stream by another road.
type twin struct {
	trial.Guarded
	at uint64
}

func newTwin(f api.Filter, g api.Guard) *twin {
	return &twin{Guarded: *trial.NewGuarded(f, g)}
}

func (m *twin) push(samples []complex128) []complex128 {
	m.at += uint64(len(samples))
	return m.Run(samples)
}

func (m *twin) save() []byte {
	return table(m.Filter, m.Guard, m.at, m.Changed, m.States...)
}

func (m *twin) fork() *twin {
	other := *m
	other.States = slices.Clone(m.States)
	return &other
}

// mixed is a twin in the middle of its work.
func mixed(mix *trial.Mixer, sections int, g api.Guard) *twin {
	m := newTwin(mix.Filter(sections), g)
	m.push(mix.Samples(3))
	m.at, m.Changed = mix.Bits(), mix.Bits()>>1
	return m
}

// are holds numbers against those that are wanted, bit by bit.
func are(t *testing.T, got, want []complex128, name string, args ...any) {
	t.Helper()
	if !trial.AlikeNumbers(got, want) {
		t.Fatalf(name+" = %x, want %x", append(args, got, want)...)
	}
}

// stands holds what a stream tells against what is wanted, byte by byte.
func stands(t *testing.T, s *stream.Stream, m *twin, name string, args ...any) {
	t.Helper()
	if got := s.At(); got != m.at {
		t.Fatalf(name+": At %d, want %d", append(args, got, m.at)...)
	}
	if got, want := s.Save(), m.save(); !bytes.Equal(got, want) {
		t.Fatalf(name+": saved as\n% x, want\n% x", append(args, got, want)...)
	}
}

// like pushes samples into a stream and its twin, piece by piece.
func like(t *testing.T, s *stream.Stream, m *twin, pieces ...[]complex128) {
	t.Helper()
	for _, samples := range pieces {
		are(t, s.Push(samples), m.push(samples), "P20.2: Push(%x) of %x, %v", samples, m.Filter, m.Guard)
		stands(t, s, m, "P20.4: behind Push(%x) of %x, %v", samples, m.Filter, m.Guard)
	}
}

// asked are the answers of a sequence over so many places.
func asked(t *testing.T, s *stream.Stream, samples []complex128) []complex128 {
	t.Helper()
	var answers []complex128
	for i, y := range s.Seq(samples) {
		if i != len(answers) || i >= len(samples) {
			t.Fatalf("P20.7: the place %d behind %d answers to %d samples", i, len(answers), len(samples))
		}
		answers = append(answers, y)
	}
	return answers
}

// refusedBytes: does Load answer this error, and nothing beside it?
func refusedBytes(t *testing.T, p []byte, want api.Errno, name string, args ...any) {
	t.Helper()
	if s, e := stream.Load(p); s != nil || e != want {
		t.Errorf("P20.5: "+name+": Load of %d bytes: %v, %d, want %d", append(args, len(p), s, e, want)...)
	}
}
