package block_test

import (
	"math"
	"slices"
	"testing"

	"quaver/api"
	"quaver/block"
	"quaver/cplx"
	"quaver/fft"
	"quaver/sum"
	"quaver/trial"
)

const (
	least    = trial.Least
	greatest = trial.Greatest
)

var (
	minus    = math.Copysign(0, -1)
	infinity = math.Inf(1)
	nan      = math.NaN()
)

// list is these numbers.
func list(numbers ...complex128) []complex128 {
	return numbers
}

// made is a filter that New does not refuse.
func made(t *testing.T, taps []complex128, k int) *block.Block {
	t.Helper()
	b, e := block.New(taps, k)
	if e != api.OK || b == nil {
		t.Fatalf("P21.2: New of %d taps, %d: %v, %d", len(taps), k, b, e)
	}
	return b
}

// tapped are the answers of Taps, which does not refuse these.
func tapped(t *testing.T, taps, samples []complex128) []complex128 {
	t.Helper()
	y, e := block.Taps(taps, samples)
	if e != api.OK || len(y) != len(samples) {
		t.Fatalf("P21.1: Taps of %d taps, %d samples: %d answers, %d", len(taps), len(samples), len(y), e)
	}
	return y
}

// tappedOf is P21.1 word by word.
func tappedOf(taps, samples []complex128) []complex128 {
	answers := []complex128{}
	for i := range samples {
		var products []complex128
		for j := 0; j < len(taps) && i-j >= 0; j++ {
			products = append(products, cplx.Mul(taps[j], samples[i-j]))
		}
		answers = append(answers, sum.Left(products))
	}
	return answers
}

// twin is a filter by the words of P21.2 to P21.4.
type twin struct {
	n       int
	taps    []complex128 // as they were handed in
	waiting []complex128
	tail    []complex128
}

func newTwin(taps []complex128, k int) *twin {
	return &twin{n: 1 << k, taps: slices.Clone(taps), tail: make([]complex128, 1<<k)}
}

// behind is a list with noughts behind it, 2N numbers in all.
func (m *twin) behind(list []complex128) []complex128 {
	return append(slices.Clone(list), make([]complex128, 2*m.n-len(list))...)
}

// block takes N samples, or fewer with noughts behind them.
func (m *twin) block(t *testing.T, samples []complex128) []complex128 {
	t.Helper()
	h, e := fft.Forward(m.behind(m.taps))
	x, f := fft.Forward(m.behind(samples))
	if e != api.OK || f != api.OK {
		t.Fatalf("P9.1: Forward: %d, %d", e, f)
	}
	var products, answers []complex128
	for i := range x {
		products = append(products, cplx.Mul(x[i], h[i]))
	}
	y, e := fft.Inverse(products)
	if e != api.OK {
		t.Fatalf("P9.2: Inverse: %d", e)
	}
	for i := range m.n {
		answers = append(answers, y[i]+m.tail[i])
	}
	m.tail = y[m.n:]
	return answers
}

func (m *twin) push(t *testing.T, samples []complex128) []complex128 {
	t.Helper()
	m.waiting = append(m.waiting, samples...)
	var answers []complex128
	for len(m.waiting) >= m.n {
		answers = append(answers, m.block(t, m.waiting[:m.n])...)
		m.waiting = m.waiting[m.n:]
	}
	return answers
}

func (m *twin) flush(t *testing.T) []complex128 {
	t.Helper()
	var answers []complex128
	if w := len(m.waiting); w > 0 {
		answers = m.block(t, m.waiting)[:w]
	}
	m.waiting, m.tail = nil, make([]complex128, m.n)
	return answers
}

// are holds numbers against those that are wanted, bit by bit.
func are(t *testing.T, got, want []complex128, name string, args ...any) {
	t.Helper()
	if !trial.AlikeNumbers(got, want) {
		t.Fatalf(name+" = %x, want %x", append(args, got, want)...)
	}
}

// equal holds numbers against those that are wanted, by ==.
func equal(t *testing.T, got, want []complex128, name string, args ...any) {
	t.Helper()
	if !slices.Equal(got, want) {
		t.Fatalf(name+" = %v, want %v", append(args, got, want)...)
	}
}

// waits: do so many samples wait?
func waits(t *testing.T, b *block.Block, want int, name string, args ...any) {
	t.Helper()
	if got := b.Waiting(); got != want {
		t.Fatalf("P21.5: "+name+": %d wait, want %d", append(args, got, want)...)
	}
}

// like pushes samples into a filter and its twin, piece by piece.
func like(t *testing.T, b *block.Block, m *twin, pieces ...[]complex128) {
	t.Helper()
	for _, samples := range pieces {
		are(t, b.Push(samples), m.push(t, samples), "P21.3: Push(%x), blocks of %d, the taps %x", samples, m.n, m.taps)
		waits(t, b, len(m.waiting), "behind Push(%x), blocks of %d", samples, m.n)
	}
}

// flushed flushes both.
func flushed(t *testing.T, b *block.Block, m *twin) {
	t.Helper()
	w := len(m.waiting)
	are(t, b.Flush(), m.flush(t), "P21.4: Flush of %d, blocks of %d, the taps %x", w, m.n, m.taps)
	waits(t, b, 0, "behind Flush of %d, blocks of %d", w, m.n)
}
