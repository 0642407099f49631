package block_test

import (
	"math"
	"slices"
	"testing"

	"quaver/api"
	"quaver/block"
	"quaver/cplx"
	"quaver/trial"
)

func TestExamples(t *testing.T) {
	b := made(t, list(1, 2), 1)
	equal(t, b.Push(list(3)), nil, "example 2: Push(3)")
	waits(t, b, 1, "example 2: behind Push(3)")
	equal(t, b.Push(list(4, 5)), list(3, 10), "example 2: Push(4, 5)")
	waits(t, b, 1, "example 2: behind Push(4, 5)")
	equal(t, b.Flush(), list(13), "example 2: Flush")
	waits(t, b, 0, "example 2: behind Flush")

	b = made(t, list(1), 0)
	for _, x := range list(1, 2i, -3) {
		equal(t, b.Push(list(x)), list(x), "example 3: Push(%v)", x)
	}
	for _, c := range []struct {
		taps []complex128
		k    int
		want api.Errno
	}{{list(1, 2), 0, api.ErrLong}, {nil, 3, api.ErrArg}, {list(1), 12, api.ErrArg}} {
		if b, e := block.New(c.taps, c.k); b != nil || e != c.want {
			t.Errorf("example 3: New(%v, %d): %v, %d", c.taps, c.k, b, e)
		}
	}
}

func TestNew(t *testing.T) {
	mix := trial.Mixer(411)
	for k := range api.MaxLog {
		most := min(1<<k, api.MaxTaps)
		for _, n := range []int{1, (most + 1) / 2, most} {
			taps := mix.Numbers(n, mix.Middle)
			b, m := made(t, taps, k), newTwin(taps, k)
			waits(t, b, 0, "at rest")
			like(t, b, m, nil, mix.Numbers(1<<k-1, mix.Middle), mix.Numbers(1, mix.Middle))
		}
	}
}

func TestNewErrors(t *testing.T) {
	for _, k := range []int{math.MinInt, -64, -1, 0, 1, 3, 9, 10, 11, 12, 13, 31, 32, 62, 63, 64, 65, 1 << 32, math.MaxInt} {
		for _, n := range []int{0, 1, 2, 3, 8, 9, 512, 513, 1023, 1024, 1025, 2048, 2049, 4097} {
			want := api.OK
			switch {
			case k < 0 || k > 11 || n == 0:
				want = api.ErrArg
			case n > 1<<k || n > 1024:
				want = api.ErrLong
			}
			taps := make([]complex128, n)
			if b, e := block.New(taps, k); e != want || (b == nil) != (want != api.OK) {
				t.Errorf("Errors: New of %d taps, %d: %v, %d, want %d", n, k, b, e, want)
			}
			// What the taps are is no error.
			for i := range taps {
				taps[i] = complex(nan, infinity)
			}
			if b, e := block.New(taps, k); e != want || (b == nil) != (want != api.OK) {
				t.Errorf("Errors: New of %d NaNs, %d: %v, %d, want %d", n, k, b, e, want)
			}
		}
	}
	if b, e := block.New([]complex128{}, 3); b != nil || e != api.ErrArg {
		t.Errorf("Errors: New of an empty list: %v, %d", b, e)
	}
}

func TestPush(t *testing.T) {
	mix := trial.Mixer(412)
	for k := range 6 {
		n := 1 << k
		for range 60 {
			taps := mix.Numbers(1+mix.Below(n), mix.Kind())
			b, m := made(t, taps, k), newTwin(taps, k)
			rule := mix.Kind()
			// None, fewer than a block, just a block, several and some more, behind none that wait and behind some.
			for _, count := range []int{0, n - 1, 0, 1, n, 1, n, 3*n + n/2, 2 * n, mix.Below(4 * n), mix.Below(n), mix.Below(2 * n)} {
				like(t, b, m, mix.Numbers(count, rule))
			}
		}
	}
}

func TestPushOfLongBlocks(t *testing.T) {
	mix := trial.Mixer(413)
	for _, k := range []int{9, 10, 11} {
		n := 1 << k
		for _, taps := range [][]complex128{mix.Numbers(min(n, api.MaxTaps), mix.Middle), mix.Samples(5)} {
			b, m := made(t, taps, k), newTwin(taps, k)
			like(t, b, m, mix.Numbers(n-1, mix.Middle), mix.Numbers(2, mix.Middle), mix.Numbers(2*n, mix.Middle), mix.Numbers(n-1, mix.Middle))
			flushed(t, b, m)
			like(t, b, m, mix.Numbers(n/2, mix.Middle))
			flushed(t, b, m)
		}
	}
	// Many short blocks at a time.
	taps, xs := mix.Numbers(3, mix.Middle), mix.Numbers(10001, mix.Middle)
	b, m := made(t, taps, 2), newTwin(taps, 2)
	like(t, b, m, xs, xs[:3])
}

func TestTail(t *testing.T) {
	// One sample, and blocks of noughts behind it: the tail reaches into the next block, and no farther.
	taps := list(1, 2i, -3, 4)
	for at := range 4 {
		xs := make([]complex128, 16)
		xs[at] = 2
		y := made(t, taps, 2).Push(xs)
		near(t, y, tapped(t, taps, xs), 1e-12, "P21.3: the sample at %d", at)
	}
	// Each block has its own.
	mix := trial.Mixer(414)
	for range 100 {
		taps := mix.Few(4)
		b, m := made(t, taps, 2), newTwin(taps, 2)
		for range 5 {
			like(t, b, m, mix.Few(4))
		}
	}
	// The tail at rest is +0: -0 does not outlive it.
	are(t, made(t, list(1), 0).Push(list(complex(minus, minus))), list(0), "P21.3: a nought and the tail")
}

// near holds numbers against others, each within a bound.
func near(t *testing.T, got, want []complex128, bound float64, name string, args ...any) {
	t.Helper()
	if len(got) != len(want) {
		t.Fatalf(name+": %d answers, want %d", append(args, len(got), len(want))...)
	}
	for i := range got {
		// A NaN is not within the bound.
		if !(cplx.Abs(got[i]-want[i]) <= bound) {
			t.Fatalf(name+": at %d %v, want %v", append(args, i, got[i], want[i])...)
		}
	}
}

func TestCutAnyhow(t *testing.T) {
	mix := trial.Mixer(415)
	for k := range 4 {
		for range 6 {
			taps, xs := mix.Numbers(1+mix.Below(1<<k), mix.Middle), mix.Numbers(11, mix.Kind())
			b := made(t, taps, k)
			want, rest, waiting := b.Push(xs), []complex128(nil), b.Waiting()
			rest = b.Flush()
			for i := range len(xs) + 1 {
				for j := i; j <= len(xs); j++ {
					b := made(t, taps, k)
					var got []complex128
					for _, piece := range [][]complex128{xs[:i], nil, xs[i:j], {}, xs[j:], nil} {
						before, wait := len(got), b.Waiting()
						got = append(got, b.Push(piece)...)
						// As many blocks as became full by this.
						if full := (wait + len(piece)) >> k << k; len(got)-before != full {
							t.Fatalf("P21.3: %d answers to %d samples behind %d that wait, blocks of %d", len(got)-before, len(piece), wait, 1<<k)
						}
					}
					are(t, got, want, "P21.6: %x, blocks of %d, cut at %d and %d", xs, 1<<k, i, j)
					waits(t, b, waiting, "cut at %d and %d", i, j)
					are(t, b.Flush(), rest, "P21.6: Flush behind %x, blocks of %d, cut at %d and %d", xs, 1<<k, i, j)
				}
			}
			b = made(t, taps, k)
			var got []complex128
			for i, x := range xs {
				got = append(got, b.Push(list(x))...)
				waits(t, b, (i+1)%(1<<k), "sample by sample")
			}
			are(t, got, want, "P21.6: sample by sample")
		}
	}
}

func TestFlush(t *testing.T) {
	mix := trial.Mixer(416)
	for k := range 5 {
		n := 1 << k
		for waiting := range n {
			for blocks := range 3 {
				taps := mix.Numbers(n, mix.Middle)
				b, m := made(t, taps, k), newTwin(taps, k)
				like(t, b, m, mix.Numbers(blocks*n+waiting, mix.Middle))
				flushed(t, b, m)
				flushed(t, b, m) // again: none
				// At rest: as one that is new.
				like(t, b, newTwin(taps, k), mix.Numbers(2*n+n/2, mix.Middle))
				b.Flush()
				like(t, b, newTwin(taps, k), mix.Numbers(n, mix.Middle))
			}
		}
	}
}

func TestFlushOfAll(t *testing.T) {
	// With Flush as many answers as samples, near to those of Taps.
	mix := trial.Mixer(417)
	for k := range 6 {
		for count := range 3<<k + 2 {
			taps, xs := mix.Numbers(1<<k, mix.Middle), mix.Numbers(count, mix.Middle)
			b := made(t, taps, k)
			got := append(b.Push(xs), b.Flush()...)
			near(t, got, tapped(t, taps, xs), 1e-13*size(taps)*size(xs), "P21.6: %d samples, blocks of %d", count, 1<<k)
		}
	}
}

// size is the sum of the parts' magnitudes, and 1.
func size(list []complex128) float64 {
	s := 1.0
	for _, a := range list {
		s += math.Abs(real(a)) + math.Abs(imag(a))
	}
	return s
}

func TestNearToTaps(t *testing.T) {
	mix := trial.Mixer(418)
	for k := range api.MaxLog {
		taps, xs := mix.Numbers(min(1<<k, api.MaxTaps), mix.Middle), mix.Numbers(3<<k, mix.Middle)
		got := made(t, taps, k).Push(xs)
		near(t, got, tapped(t, taps, xs), 1e-13*size(taps)*size(xs), "P21.6: blocks of %d", 1<<k)
	}
	// Small whole numbers, and transforms of 2 and of 4: exactly.
	for k := range 2 {
		for range 200 {
			taps, xs := whole(&mix, 1+mix.Below(1<<k)), whole(&mix, 9)
			b := made(t, taps, k)
			got := append(b.Push(xs), b.Flush()...)
			equal(t, got, tapped(t, taps, xs), "P21.6: %v, the taps %v", xs, taps)
		}
	}
}

// whole are numbers with small whole parts.
func whole(mix *trial.Mixer, n int) []complex128 {
	return mix.Numbers(n, func() float64 { return float64(mix.Below(19) - 9) })
}

// finite: is each part of each number finite?
func finite(list []complex128) bool {
	return !slices.ContainsFunc(list, func(a complex128) bool { return !trial.Finite(real(a)) || !trial.Finite(imag(a)) })
}

// spoilt: is no number of the list finite?
func spoilt(list []complex128) bool {
	return !slices.ContainsFunc(list, cplx.Finite)
}

func TestEndless(t *testing.T) {
	mix := trial.Mixer(419)
	for k := range 4 {
		n := 1 << k
		for _, bad := range trial.Endless() {
			for place := range n {
				taps, xs := mix.Numbers(n, mix.Middle), mix.Numbers(5*n, mix.Middle)
				clean := made(t, taps, k).Push(xs)
				xs[n+place] = bad
				b, m := made(t, taps, k), newTwin(taps, k)
				got := b.Push(xs)
				are(t, got, m.push(t, xs), "P21.3: %v at %d", bad, n+place)
				are(t, got[:n], clean[:n], "P21.6: the block ahead of %v", bad)
				if !spoilt(got[n : 3*n]) {
					t.Fatalf("P21.6: %v at %d of a block: %v", bad, place, got)
				}
				are(t, got[3*n:], clean[3*n:], "P21.6: two blocks behind %v", bad)
				// What the tail holds is gone by Flush.
				b.Push(xs[n : 2*n])
				b.Flush()
				are(t, b.Push(xs[:n]), clean[:n], "P21.4: at rest behind %v", bad)
			}
		}
	}
	// Taps of any kind, and numbers beyond the greatest on the way.
	for range 300 {
		k := mix.Below(4)
		taps := mix.Samples(1 + mix.Below(1<<k))
		b, m := made(t, taps, k), newTwin(taps, k)
		like(t, b, m, mix.Samples(5), mix.Samples(3), mix.Samples(9))
		flushed(t, b, m)
		like(t, b, m, mix.Samples(5))
	}
	if y := made(t, list(1), 0).Push(list(greatest, least)); !finite(y[1:]) {
		t.Errorf("P21.3: behind the greatest number: %v", y)
	}
}
