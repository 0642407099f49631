package bank_test

import (
	"bytes"
	"math"
	"runtime"
	"runtime/metrics"
	"slices"
	"sync/atomic"
	"testing"
	"time"

	"quaver/api"
	"quaver/bank"
	"quaver/trial"
)

var (
	minus    = math.Copysign(0, -1)
	infinity = math.Inf(1)
	nan      = math.NaN()
	none     = api.Guard{}
	all      = api.Guard{Flush: true, Clip: true, Mute: true}
)

// half is the filter whose answers halve, double the one without sections that doubles.
func half() api.Filter {
	return api.Filter{Gain: 1, Sections: []api.Section{{B0: 1, A1: -0.5}}}
}

func double() api.Filter {
	return api.Filter{Gain: 2}
}

// list is these numbers.
func list(numbers ...complex128) []complex128 {
	return numbers
}

// filters are so many of any kind.
func filters(m *trial.Mixer, n int) []api.Filter {
	var made []api.Filter
	for range n {
		made = append(made, m.Filter(m.Below(4)))
	}
	return made
}

// tame are so many whose answers stay finite, and unlike each other.
func tame(m *trial.Mixer, n int) []api.Filter {
	part := func() float64 { return m.Middle() / 4096 }
	var made []api.Filter
	for range n {
		f := api.Filter{Gain: m.Numbers(1, m.Middle)[0]}
		for range m.Below(3) {
			f.Sections = append(f.Sections, m.Section(part))
		}
		made = append(made, f)
	}
	return made
}

// answers are those of a filter from rest, by another road.
func answers(f api.Filter, samples []complex128) []complex128 {
	return trial.NewGuarded(f, none).Run(samples)
}

// are holds numbers against those that are wanted, bit by bit.
func are(t *testing.T, got, want []complex128, name string, args ...any) {
	t.Helper()
	if !trial.AlikeNumbers(got, want) {
		t.Fatalf(name+" = %x, want %x", append(args, got, want)...)
	}
}

// tells holds what a call answers against what is wanted.
func tells(t *testing.T, got []complex128, e api.Errno, want []complex128, name string, args ...any) {
	t.Helper()
	if e != api.OK {
		t.Fatalf(name+": the error %d", append(args, e)...)
	}
	are(t, got, want, name, args...)
}

// refuses holds what a call answers against an error.
func refuses(t *testing.T, got []complex128, e, want api.Errno, name string, args ...any) {
	t.Helper()
	if e != want || len(got) != 0 {
		t.Errorf(name+" = %v, %d, want the error %d", append(args, got, e, want)...)
	}
}

// alike: bit by bit; NaNs are one.
func alike(a, b bank.Result) bool {
	return a.E == b.E && a.Changed == b.Changed && trial.AlikeNumbers(a.Answers, b.Answers) && trial.AlikeStates(a.States, b.States)
}

// created is how many goroutines a call makes. The runtime may make some of its own beside it, but not each time: the least count is the call's.
func created(call func()) int {
	least := math.MaxInt
	for range 5 {
		before := everMade()
		call()
		least = min(least, everMade()-before)
	}
	return least
}

// everMade is how many goroutines were made since the program began, ended or not.
func everMade() int {
	count := []metrics.Sample{{Name: "/sched/goroutines-created:goroutines"}}
	metrics.Read(count)
	return int(count[0].Value.Uint64())
}

// most is how many goroutines of the bank are at work at a time in a call, which is made again until somebody has looked on often enough: a machine that is busy with other things only makes it take longer.
func most(call func()) int {
	var calls, inside, looks, seen atomic.Int64
	watched := make(chan struct{})
	go func() {
		for looks.Load() < 40 {
			now := inside.Load()
			n := busy()
			// A look counts only where it fell into one call from its beginning to its end.
			if now != 0 && now == inside.Load() {
				seen.Store(max(seen.Load(), int64(n)))
				looks.Add(1)
			}
			runtime.Gosched()
		}
		close(watched)
	}()
	for looks.Load() < 40 {
		inside.Store(calls.Add(1))
		call()
		inside.Store(0)
	}
	<-watched
	return int(seen.Load())
}

// leaves: is a goroutine still there when a call has answered?
func leaves(call func()) bool {
	before := runtime.NumGoroutine()
	call()
	return busy() > 0 || !ended(before)
}

// busy is how many goroutines work in the bank, but for the one that called it.
func busy() int {
	stacks := make([]byte, 1<<20)
	stacks = stacks[:runtime.Stack(stacks, true)]
	n := 0
	for one := range bytes.SplitSeq(stacks, []byte("\n\n")) {
		if bytes.Contains(one, []byte("quaver/bank.")) && !bytes.Contains(one, []byte("testing.tRunner")) {
			n++
		}
	}
	return n
}

// ended: are there no more goroutines than before? One that has told its end may need a while to go, more so on a busy machine: only those that stay are waited for to the last.
func ended(before int) bool {
	for range 60000 {
		if runtime.NumGoroutine() <= before {
			return true
		}
		time.Sleep(time.Millisecond)
	}
	return false
}

// wrong are filters that are refused, with their errors.
func wrong() map[api.Errno][]api.Filter {
	long := api.Filter{Gain: 1, Sections: make([]api.Section, api.MaxSections+1)}
	both := api.Filter{Gain: complex(nan, 0), Sections: slices.Repeat([]api.Section{{A2: complex(0, infinity)}}, api.MaxSections+1)}
	made := map[api.Errno][]api.Filter{api.ErrLong: {long, both}}
	for _, bad := range trial.Endless() {
		made[api.ErrNaN] = append(made[api.ErrNaN], api.Filter{Gain: bad}, api.Filter{Gain: 1, Sections: []api.Section{{B0: 1}, {A1: bad}}})
	}
	return made
}
