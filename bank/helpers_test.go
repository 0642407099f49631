package bank_test

import (
	"bytes"
	"math"
	"runtime"
	"slices"
	"sync/atomic"
	"testing"
	"time"

	"quaver/api"
	"quaver/bank"
	"quaver/trial"
)

var (
	minus    = math.Copysign(0, -1)
	infinity = math.Inf(1)
	nan      = math.NaN()
	none     = api.Guard{}
	all      = api.Guard{Flush: true, Clip: true, Mute: true}
)

// half is the filter whose answers halve, double the one without sections that doubles.
func half() api.Filter {
	return api.Filter{Gain: 1, Sections: []api.Section{{B0: 1, A1: -0.5}}}
}

func double() api.Filter {
	return api.Filter{Gain: 2}
}

// list is these numbers.
func list(numbers ...complex128) []complex128 {
	return numbers
}

// filters are so many of any kind.
func filters(m *trial.Mixer, n int) []api.Filter {
	var made []api.Filter
	for range n {
		made = append(made, m.Filter(m.Below(4)))
	}
	return made
}

// tame are so many whose answers stay finite, and unlike each other.
func tame(m *trial.Mixer, n int) []api.Filter {
	part := func() float64 { return m.Middle() / 4096 }
	var made []api.Filter
	for range n {
		f := api.Filter{Gain: m.Numbers(1, m.Middle)[0]}
		for range m.Below(3) {
			f.Sections = append(f.Sections, m.Section(part))
		}
		made = append(made, f)
	}
	return made
}

// answers are those of a filter from rest, by another road.
func answers(f api.Filter, samples []complex128) []complex128 {
	return trial.NewGuarded(f, none).Run(samples)
}

// are holds numbers against those that are wanted, bit by bit.
func are(t *testing.T, got, want []complex128, name string, args ...any) {
	t.Helper()
	if !trial.AlikeNumbers(got, want) {
		t.Fatalf(name+" = %x, want %x", append(args, got, want)...)
	}
}

// tells holds what a call answers against what is wanted.
func tells(t *testing.T, got []complex128, e api.Errno, want []complex128, name string, args ...any) {
	t.Helper()
	if e != api.OK {
		t.Fatalf(name+": the error %d", append(args, e)...)
	}
	are(t, got, want, name, args...)
}

// refuses holds what a call answers against an error.
func refuses(t *testing.T, got []complex128, e, want api.Errno, name string, args ...any) {
	t.Helper()
	if e != want || len(got) != 0 {
		t.Errorf(name+" = %v, %d, want the error %d", append(args, got, e, want)...)
	}
}

// alike: bit by bit; NaNs are one.
func alike(a, b bank.Result) bool {
	return a.E == b.E && a.Changed == b.Changed && trial.AlikeNumbers(a.Answers, b.Answers) && trial.AlikeStates(a.States, b.States)
}

// most is how many goroutines of the bank were seen while a call ran; whether all of them had ended behind it.
func most(call func()) (int, bool) {
	before := runtime.NumGoroutine()
	var over atomic.Bool
	seen := make(chan int)
	go func() {
		n := busy()
		seen <- n // it looks on from now on
		for !over.Load() {
			n = max(n, busy())
		}
		seen <- n
	}()
	<-seen
	call()
	left := busy()
	over.Store(true)
	n := <-seen
	return n, left == 0 && ended(before)
}

// busy is how many goroutines work in the bank, but for the one that called it.
func busy() int {
	stacks := make([]byte, 1<<20)
	stacks = stacks[:runtime.Stack(stacks, true)]
	n := 0
	for one := range bytes.SplitSeq(stacks, []byte("\n\n")) {
		if bytes.Contains(one, []byte("quaver/bank.")) && !bytes.Contains(one, []byte("testing.tRunner")) {
			n++
		}
	}
	return n
}

// ended: are there soon no more goroutines than before?
func ended(before int) bool {
	for range 2000 {
		if runtime.NumGoroutine() <= before {
			return true
		}
		time.Sleep(time.Millisecond)
	}
	return false
}

// wrong are filters that are refused, with their errors.
func wrong() map[api.Errno][]api.Filter {
	long := api.Filter{Gain: 1, Sections: make([]api.Section, api.MaxSections+1)}
	both := api.Filter{Gain: complex(nan, 0), Sections: slices.Repeat([]api.Section{{A2: complex(0, infinity)}}, api.MaxSections+1)}
	made := map[api.Errno][]api.Filter{api.ErrLong: {long, both}}
	for _, bad := range trial.Endless() {
		made[api.ErrNaN] = append(made[api.ErrNaN], api.Filter{Gain: bad}, api.Filter{Gain: 1, Sections: []api.Section{{B0: 1}, {A1: bad}}})
	}
	return made
}
