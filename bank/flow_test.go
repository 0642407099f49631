package bank_test

import (
	"math"
	"slices"
	"testing"

	"quaver/api"
	"quaver/bank"
	"quaver/trial"
)

func TestPipeExamples(t *testing.T) {
	y, e := bank.Pipe([]api.Filter{double(), half()}, list(1, 0))
	tells(t, y, e, list(2, 1), "P26.3: Pipe")
	// Without filters the samples themselves, to the last bit.
	odd := list(1, 0, complex(minus, minus), complex(nan, -infinity), complex(trial.Least, 3))
	for _, none := range [][]api.Filter{nil, {}} {
		y, e = bank.Pipe(none, odd)
		tells(t, y, e, odd, "P26.3: Pipe without filters")
	}
	for _, none := range [][]complex128{nil, {}} {
		y, e = bank.Pipe(nil, none)
		tells(t, y, e, nil, "P26.3: Pipe of nothing")
		y, e = bank.Pipe([]api.Filter{half(), double()}, none)
		tells(t, y, e, nil, "P26.3: Pipe of no samples")
	}
	// One behind the other, from the first: what goes beyond the greatest number does not come back.
	y, e = bank.Pipe([]api.Filter{{Gain: 4}, {Gain: 0.25}}, list(trial.Greatest))
	tells(t, y, e, list(complex(infinity, nan)), "P26.3: Pipe, the greater one first")
	y, e = bank.Pipe([]api.Filter{{Gain: 0.25}, {Gain: 4}}, list(trial.Greatest))
	tells(t, y, e, list(trial.Greatest), "P26.3: Pipe, the lesser one first")
}

// piped is P26.3 by another road.
func piped(fs []api.Filter, samples []complex128) []complex128 {
	for _, f := range fs {
		samples = answers(f, samples)
	}
	return samples
}

func TestPipe(t *testing.T) {
	mix := trial.Mixer(525)
	for _, n := range []int{1, 2, 3, 5, 17, 70} {
		for _, fs := range [][]api.Filter{filters(&mix, n), tame(&mix, n)} {
			for _, samples := range [][]complex128{mix.Samples(4), mix.Numbers(9, mix.Middle), mix.Few(1)} {
				y, e := bank.Pipe(fs, samples)
				tells(t, y, e, piped(fs, samples), "P26.3: Pipe of %d filters", n)
			}
		}
	}
	// More samples than filters, and more filters than samples.
	y, e := bank.Pipe(slices.Repeat([]api.Filter{half()}, 3), mix.Numbers(5000, mix.Middle))
	if len(y) != 5000 || e != api.OK {
		t.Errorf("P26.3: Pipe of 5000 samples: %d, %d", len(y), e)
	}
	y, e = bank.Pipe(slices.Repeat([]api.Filter{{Gain: 1i}}, 2000), list(1, 2, 3))
	tells(t, y, e, piped(slices.Repeat([]api.Filter{{Gain: 1i}}, 2000), list(1, 2, 3)), "P26.3: Pipe of 2000 filters")
}

func TestPlayExamples(t *testing.T) {
	both := []api.Filter{half(), double()}
	y, e := bank.Play(both, []bank.Turn{{0, 1}, {1, 5}, {0, 0}})
	tells(t, y, e, list(1, 10, 0.5), "P26.4: Play")
	y, e = bank.Play(both, []bank.Turn{{0, 1}, {2, 1}})
	refuses(t, y, e, api.ErrRange, "P26.4: Play")
	for _, none := range [][]bank.Turn{nil, {}} {
		y, e = bank.Play(both, none)
		tells(t, y, e, nil, "P26.4: Play of no turns")
		y, e = bank.Play(nil, none)
		tells(t, y, e, nil, "P26.4: Play of nothing")
	}
}

// played is P26.4 by another road.
func played(fs []api.Filter, turns []bank.Turn) []complex128 {
	var works []*trial.Guarded
	for _, f := range fs {
		works = append(works, trial.NewGuarded(f, none))
	}
	var made []complex128
	for _, t := range turns {
		made = append(made, works[t.Filter].Step(t.X))
	}
	return made
}

func TestPlay(t *testing.T) {
	mix := trial.Mixer(526)
	for _, n := range []int{1, 2, 3, 8, 70} {
		for _, fs := range [][]api.Filter{filters(&mix, n), tame(&mix, n)} {
			for _, count := range []int{1, 2, 30, 200} {
				var turns []bank.Turn
				last := 0
				for _, x := range mix.Samples(count) {
					// In turns, and many times the same one.
					if mix.Below(3) > 0 {
						last = mix.Below(n)
					}
					turns = append(turns, bank.Turn{Filter: last, X: x})
				}
				y, e := bank.Play(fs, turns)
				tells(t, y, e, played(fs, turns), "P26.4: Play of %d filters, %d turns", n, count)
			}
		}
	}
	// All turns of one filter: its cascade; no turn of any other is seen.
	samples := mix.Numbers(20, mix.Middle)
	var turns, more []bank.Turn
	for _, x := range samples {
		turns = append(turns, bank.Turn{Filter: 1, X: x})
		more = append(more, bank.Turn{Filter: 0, X: complex(nan, 1)}, bank.Turn{Filter: 1, X: x}, bank.Turn{Filter: 2, X: -x})
	}
	three := []api.Filter{half(), half(), half()}
	y, e := bank.Play(three, turns)
	tells(t, y, e, answers(half(), samples), "P26.4: Play of one filter alone")
	y, e = bank.Play(three, more)
	var second []complex128
	for i := 1; i < len(y); i += 3 {
		second = append(second, y[i])
	}
	tells(t, second, e, answers(half(), samples), "P26.4: Play of one filter among others")
}

func TestFlowErrors(t *testing.T) {
	turns := map[api.Errno][]bank.Turn{
		api.OK:       {{0, 1}, {1, 2}},
		api.ErrRange: {{0, 1}, {9, 2}, {1, 1}},
	}
	for _, place := range []int{-1, 2, 3, math.MaxInt, math.MinInt} {
		for at := range 3 {
			list := []bank.Turn{{0, 1}, {1, 2}, {0, 3}}
			list[at].Filter = place
			y, e := bank.Play([]api.Filter{half(), double()}, list)
			refuses(t, y, e, api.ErrRange, "Errors: Play with the filter %d", place)
		}
		y, e := bank.Play(nil, []bank.Turn{{place, 1}})
		refuses(t, y, e, api.ErrRange, "Errors: Play without filters, the filter %d", place)
	}
	y, e := bank.Play(nil, []bank.Turn{{0, 1}})
	refuses(t, y, e, api.ErrRange, "Errors: Play without filters")
	for want, bad := range wrong() {
		for _, b := range bad {
			for at := range 3 {
				fs := slices.Insert([]api.Filter{half(), double()}, at, b)
				y, e := bank.Mix(fs, list(1), 2)
				refuses(t, y, e, want, "Errors: Mix")
				y, e = bank.Mix(fs, nil, 2)
				refuses(t, y, e, want, "Errors: Mix of no samples")
				y, e = bank.Pipe(fs, list(1))
				refuses(t, y, e, want, "Errors: Pipe")
				y, e = bank.Pipe(fs, nil)
				refuses(t, y, e, want, "Errors: Pipe of no samples")
				for _, list := range turns {
					y, e = bank.Play(fs, list)
					refuses(t, y, e, want, "Errors: Play")
				}
				y, e = bank.Play(fs, nil)
				refuses(t, y, e, want, "Errors: Play of no turns")
			}
		}
	}
}

func TestLeastError(t *testing.T) {
	long, odd := wrong()[api.ErrLong][0], wrong()[api.ErrNaN][0]
	for _, fs := range [][]api.Filter{{long, odd}, {odd, long}, {half(), odd, odd, long, odd}, {odd, half(), long}} {
		y, e := bank.Mix(fs, list(1), 3)
		refuses(t, y, e, api.ErrLong, "Errors: Mix")
		y, e = bank.Pipe(fs, list(1))
		refuses(t, y, e, api.ErrLong, "Errors: Pipe")
		y, e = bank.Play(fs, []bank.Turn{{-1, 1}})
		refuses(t, y, e, api.ErrLong, "Errors: Play")
	}
}

func TestEachFilterIsAGoroutine(t *testing.T) {
	// Goroutines are counted as they are made, and a filter more is one more: with fewer samples than filters, and with none, it is no sample's goroutine.
	for _, n := range []int{1, 2, 3, 50, 1000} {
		fs := slices.Repeat([]api.Filter{half()}, n)
		for _, samples := range [][]complex128{nil, {1}, make([]complex128, 7)} {
			more := created(func() { bank.Pipe(fs, samples) }) - created(func() { bank.Pipe(nil, samples) })
			if more < n {
				t.Errorf("P26.3: Pipe: %d goroutines for %d filters, %d samples", more, n, len(samples))
			}
			var turns []bank.Turn
			for i, x := range samples {
				turns = append(turns, bank.Turn{Filter: i % n, X: x})
			}
			more = created(func() { bank.Play(fs, turns) }) - created(func() { bank.Play(nil, nil) })
			if more < n {
				t.Errorf("P26.4: Play: %d goroutines for %d filters, %d turns", more, n, len(turns))
			}
		}
	}
}

func TestTheFiltersWorkAtTheSameTime(t *testing.T) {
	fs, samples := slices.Repeat([]api.Filter{half()}, 50), make([]complex128, 20000)
	var turns []bank.Turn
	for i := range samples {
		turns = append(turns, bank.Turn{Filter: i % len(fs)})
	}
	if seen := most(func() { bank.Pipe(fs, samples) }); seen < len(fs) {
		t.Errorf("P26.3: Pipe: %d goroutines at a time for %d filters", seen, len(fs))
	}
	if seen := most(func() { bank.Play(fs, turns) }); seen < len(fs) {
		t.Errorf("P26.4: Play: %d goroutines at a time for %d filters", seen, len(fs))
	}
}

func TestNoGoroutineIsLeft(t *testing.T) {
	fs, samples := slices.Repeat([]api.Filter{half()}, 50), make([]complex128, 500)
	var turns []bank.Turn
	for i := range samples {
		turns = append(turns, bank.Turn{Filter: i % len(fs)})
	}
	// With many filters some would still be seen, if they were not waited for.
	many := slices.Repeat([]api.Filter{half()}, 1000)
	for range 20 {
		if leaves(func() { bank.Play(many, turns[:5]) }) || leaves(func() { bank.Play(fs, turns) }) {
			t.Fatal("P26.5: goroutines are left behind Play")
		}
		if leaves(func() { bank.Pipe(many, nil) }) || leaves(func() { bank.Pipe(fs, samples) }) {
			t.Fatal("P26.5: goroutines are left behind Pipe")
		}
	}
	// Nor are any left, where there is nothing to do, or where a call is refused.
	bad := append(slices.Clone(fs), wrong()[api.ErrLong][0])
	left := leaves(func() {
		for range 20 {
			bank.Pipe(fs, nil)
			bank.Play(fs, nil)
			bank.Pipe(bad, samples)
			bank.Play(bad, turns)
			bank.Play(fs, append(slices.Clone(turns), bank.Turn{Filter: len(fs)}))
			bank.Mix(bad, samples, 9)
		}
	})
	if left {
		t.Error("P26.5: goroutines are left")
	}
}
