package lattice_test

import (
	"sync"
	"testing"

	"quaver/api"
	"quaver/lattice"
	"quaver/trial"
)

// calls answers what a lattice tells, in lists: args are reflection numbers and samples.
func calls(args [][]complex128) [][]complex128 {
	l, e := lattice.New(args[0])
	told := [][]complex128{list(complex(float64(e), 0)), l.Numbers(), l.Back(), l.Run(args[1]), l.Back(), l.Run(args[1]), l.Numbers(), l.Back()}
	other, e := lattice.New(args[0])
	told = append(told, list(complex(float64(e), 0)), other.Run(args[1]))
	exact, e := lattice.Exact(args[0], args[1])
	near := list(complex(float64(e), 0))
	for _, g := range exact {
		near = append(near, trial.ValueGauss(g).Near())
	}
	return append(told, near)
}

func TestMemory(t *testing.T) {
	mix := trial.Mixer(193)
	for _, n := range []int{0, 1, 2, 5} {
		for _, samples := range [][]complex128{nil, {}, list(1), mix.Numbers(7, mix.Middle), mix.Few(4), mix.Numbers(5, mix.Float)} {
			if fault := trial.TouchedLists(calls, mix.Numbers(n, mix.Middle), samples); fault != "" {
				t.Errorf("Memory: %d numbers, %v: %s", n, samples, fault)
			}
		}
	}
	if fault := trial.BesideLists(calls, mix.Numbers(6, mix.Middle), mix.Numbers(20, mix.Middle)); fault != "" {
		t.Errorf("P2: %s", fault)
	}
}

func TestMemoryOfAnswers(t *testing.T) {
	mix := trial.Mixer(194)
	ks, samples := mix.Numbers(5, mix.Middle), mix.Numbers(4, mix.Middle)
	given := append(list(), ks...)
	l, m := made(t, given), newModel(ks)
	trial.ScrawlList(given)
	are(t, l.Numbers(), ks, "Memory: Numbers, when what was handed in is written over")
	for range 3 {
		// What was told may be written over, and stays what it was when the lattice goes on.
		for _, told := range [][]complex128{l.Numbers(), l.Back(), l.Run(nil)} {
			trial.ScrawlList(told)
		}
		back, numbers := l.Back(), l.Numbers()
		was := append(list(), m.back...)
		answers := l.Run(samples)
		are(t, answers, m.run(samples), "Memory: Run behind answers that are written over")
		trial.ScrawlList(answers)
		are(t, back, was, "Memory: an answer of Back goes on with the lattice")
		are(t, numbers, ks, "Memory: an answer of Numbers")
	}
}

// read is numbers that stand for floats.
func read(list trial.Numbers) []complex128 {
	var all []complex128
	for _, g := range list {
		all = append(all, trial.ValueGauss(g).Near())
	}
	return all
}

func TestMemoryOfExactNumbers(t *testing.T) {
	exact := func(args []trial.Numbers) []trial.Numbers {
		answers, _ := lattice.Exact(read(args[0]), read(args[1]))
		return []trial.Numbers{answers}
	}
	of := func(args []trial.Numbers) []trial.Numbers {
		l, e := lattice.Of(api.Poly(args[0]))
		told := trial.Numbers{trial.Whole(int64(e), 0)}
		for _, k := range l.Numbers() {
			told = append(told, trial.Exactly(k).Gauss())
		}
		return []trial.Numbers{told}
	}
	third := trial.Fraction(1, -1, 3).Gauss()
	for _, ks := range []trial.Numbers{{}, trial.Numbers(trial.Reals(1)), trial.Numbers(trial.Reals(0, 1)), trial.Numbers(trial.Reals(3, 0, 0, 2)), {trial.Fraction(1, 1, 2).Gauss(), trial.Fraction(-3, 5, 8).Gauss()}} {
		for _, xs := range []trial.Numbers{{}, trial.Numbers(trial.Reals(1, 0, 0)), trial.Numbers(trial.Reals(7, 7, 7, 7)), {trial.Fraction(1, 3, 4).Gauss(), trial.Whole(0, 1)}} {
			if fault := trial.Touched(exact, ks, xs); fault != "" {
				t.Errorf("Memory: Exact(%v, %v): %s", ks, xs, fault)
			}
		}
		if fault := trial.Touched(of, ks); fault != "" {
			t.Errorf("Memory: Of(%v): %s", ks, fault)
		}
		if fault := trial.Beside(exact, ks, trial.Numbers(trial.Reals(1, 2, 3))); fault != "" {
			t.Errorf("P2: Exact(%v): %s", ks, fault)
		}
	}
	if fault := trial.Touched(of, trial.Numbers{third, third, trial.Whole(2, 0)}); fault != "" {
		t.Errorf("Memory: Of: %s", fault)
	}
}

func TestLatticesBesideEachOther(t *testing.T) {
	mix := trial.Mixer(195)
	ks, samples := mix.Numbers(6, mix.Middle), mix.Numbers(100, mix.Middle)
	want := made(t, ks).Run(samples)
	got := make([][]complex128, 16)
	var group sync.WaitGroup
	for i := range got {
		l := made(t, ks)
		group.Go(func() { got[i] = l.Run(samples) })
	}
	group.Wait()
	for _, answers := range got {
		are(t, answers, want, "P2: lattices that run beside each other")
	}
}
