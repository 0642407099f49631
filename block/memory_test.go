package block_test

import (
	"slices"
	"sync"
	"testing"

	"quaver/block"
	"quaver/trial"
)

func TestNilBlock(t *testing.T) {
	var b *block.Block
	for _, xs := range [][]complex128{nil, {}, list(1), list(complex(nan, infinity), least)} {
		if got := b.Push(xs); len(got) != 0 {
			t.Errorf("P21.5: Push(%v) of a nil one = %v", xs, got)
		}
		if got := b.Flush(); len(got) != 0 {
			t.Errorf("P21.5: Flush of a nil one = %v", got)
		}
		waits(t, b, 0, "of a nil one")
	}
}

func TestNoneOfNewEnds(t *testing.T) {
	// Of these nothing is promised but that they end.
	var empty block.Block
	first := made(t, list(1, 2), 1)
	first.Push(list(1))
	shared := *first
	for _, b := range []*block.Block{&empty, &shared, first} {
		for range 2 {
			b.Push(list(1, complex(nan, 0), 3))
			b.Waiting()
			b.Flush()
			b.Push(nil)
		}
	}
}

// calls answers what Taps and a filter tell: args are taps and samples.
func calls(args [][]complex128) [][]complex128 {
	taps, samples := args[0], args[1]
	y, e := block.Taps(taps, samples)
	told := [][]complex128{y, list(complex(float64(e), 0))}
	for _, k := range []int{2, 3} {
		b, e := block.New(taps, k)
		told = append(told, list(complex(float64(e), float64(b.Waiting()))))
		for range 2 {
			told = append(told, b.Push(samples), b.Push(samples), list(complex(float64(b.Waiting()), 0)), b.Flush(), b.Push(samples))
		}
	}
	return told
}

func TestMemory(t *testing.T) {
	mix := trial.Mixer(421)
	for n := range 6 { // none are too few, five too many for blocks of four
		for _, xs := range [][]complex128{nil, {}, list(1), mix.Numbers(4, mix.Middle), mix.Numbers(7, mix.Middle), mix.Few(13), mix.Samples(9)} {
			if fault := trial.TouchedLists(calls, mix.Numbers(n, mix.Middle), xs); fault != "" {
				t.Errorf("Memory: %d taps, %v: %s", n, xs, fault)
			}
		}
	}
	if fault := trial.BesideLists(calls, mix.Numbers(4, mix.Middle), mix.Samples(500)); fault != "" {
		t.Errorf("P2: %s", fault)
	}
}

func TestMemoryOfWhatIsHandedIn(t *testing.T) {
	mix := trial.Mixer(422)
	for k := range 4 {
		n := 1 << k
		taps := mix.Numbers(n, mix.Middle)
		given := slices.Clone(taps)
		b, m := made(t, given, k), newTwin(taps, k)
		trial.ScrawlList(given) // what was handed in may be written over
		for _, count := range []int{n - 1, n, 1, 3 * n, 2*n + n/2, 0, n} {
			xs := mix.Numbers(count, mix.Middle)
			piece := slices.Clone(xs)
			got, want := b.Push(piece), m.push(t, xs)
			trial.ScrawlList(piece)
			are(t, got, want, "Memory: the samples are written over, blocks of %d", n)
			trial.ScrawlList(got) // and so may an answer
		}
		got := b.Flush()
		are(t, got, m.flush(t), "Memory: Flush, the samples are written over, blocks of %d", n)
		trial.ScrawlList(got)
		like(t, b, m, mix.Numbers(2*n, mix.Middle))
	}
}

func TestMemoryOfAnswers(t *testing.T) {
	mix := trial.Mixer(423)
	taps, xs := mix.Numbers(4, mix.Middle), mix.Numbers(8, mix.Middle)
	b, m := made(t, taps, 2), newTwin(taps, 2)
	got, want := b.Push(xs), m.push(t, xs)
	for range 3 {
		// An answer may be pushed again, and is nothing but an answer.
		next := b.Push(got)
		want = m.push(t, want)
		trial.ScrawlList(got)
		are(t, next, want, "Memory: the answers pushed again")
		got = next
	}
	// Two filters of one list of taps.
	one, two := made(t, taps, 2), made(t, taps, 2)
	one.Push(xs[:6])
	like(t, two, newTwin(taps, 2), xs)
}

func TestFiltersBesideEachOther(t *testing.T) {
	mix := trial.Mixer(424)
	taps, xs := mix.Numbers(8, mix.Middle), mix.Samples(200)
	first := made(t, taps, 3)
	want := append(first.Push(xs), first.Flush()...)
	got := make([][]complex128, 16)
	var group sync.WaitGroup
	for i := range got {
		b := made(t, taps, 3)
		group.Go(func() { got[i] = append(b.Push(xs), b.Flush()...) })
	}
	group.Wait()
	for _, answers := range got {
		are(t, answers, want, "P2: filters that run beside each other")
	}
}
