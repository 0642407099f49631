package bank_test

import (
	"math"
	"slices"
	"testing"

	"quaver/api"
	"quaver/bank"
	"quaver/trial"
)

func TestRunExamples(t *testing.T) {
	got, e := bank.Run([]bank.Job{{Filter: half(), Samples: list(1, 0, 0)}}, 3)
	want := bank.Result{Answers: list(1, 0.5, 0.25), States: []api.State{{S1: 0.125}}}
	if e != api.OK || len(got) != 1 || !alike(got[0], want) {
		t.Errorf("P26.1: %v, %d", got, e)
	}
	got, e = bank.Run([]bank.Job{{Filter: api.Filter{Sections: make([]api.Section, 17)}, Samples: list(1)}}, 1)
	if e != api.OK || len(got) != 1 || !alike(got[0], bank.Result{E: api.ErrLong}) {
		t.Errorf("P26.1: of 17 sections: %v, %d", got, e)
	}
	for _, none := range [][]bank.Job{nil, {}} {
		for _, workers := range []int{1, 2, 64} {
			if got, e := bank.Run(none, workers); len(got) != 0 || e != api.OK {
				t.Errorf("P26.1: of no jobs: %v, %d", got, e)
			}
		}
	}
}

// result is what comes of a job by another road.
func result(j bank.Job) bank.Result {
	m := trial.NewGuarded(j.Filter, j.Guard)
	return bank.Result{Answers: m.Run(j.Samples), States: m.States, Changed: m.Changed}
}

func TestRun(t *testing.T) {
	mix := trial.Mixer(520)
	for _, n := range []int{1, 2, 3, 7, 63, 64, 65, 130} {
		var jobs []bank.Job
		var want []bank.Result
		for range n {
			j := bank.Job{Filter: mix.Filter(mix.Below(4)), Guard: trial.Guards()[mix.Below(8)], Samples: mix.Samples(mix.Below(6))}
			r := result(j)
			for e, bad := range wrong() {
				if mix.Below(8) == 0 {
					j.Filter, r = bad[mix.Below(len(bad))], bank.Result{E: e}
				}
			}
			jobs, want = append(jobs, j), append(want, r)
		}
		for _, workers := range []int{1, 2, 3, 5, 8, 63, 64} {
			got, e := bank.Run(jobs, workers)
			if e != api.OK || len(got) != n {
				t.Fatalf("P26.1: %d jobs, %d workers: %d results, %d", n, workers, len(got), e)
			}
			for i, r := range got {
				if !alike(r, want[i]) {
					t.Fatalf("P26.1: job %d of %d, %d workers: %x, want %x", i, n, workers, r, want[i])
				}
			}
		}
	}
	// Each filter works with its guard alone.
	jobs := []bank.Job{{Filter: half(), Guard: api.Guard{Flush: true}, Samples: list(trial.LeastNormal, 0)}, {Filter: half(), Samples: list(trial.LeastNormal, 0)}}
	got, _ := bank.Run(jobs, 2)
	if got[0].Changed != 1 || got[1].Changed != 0 || got[0].Answers[1] != 0 || got[1].Answers[1] != trial.LeastNormal/2 {
		t.Errorf("P26.1: with a guard and without: %v", got)
	}
}

func TestWorkers(t *testing.T) {
	jobs := []bank.Job{{Filter: half()}, {Filter: double()}}
	for workers := -3; workers <= 70; workers++ {
		want := api.OK
		if workers < 1 || workers > 64 {
			want = api.ErrArg
		}
		got, e := bank.Run(jobs, workers)
		if e != want || want == api.OK && len(got) != 2 || want != api.OK && len(got) != 0 {
			t.Errorf("Errors: Run with %d workers: %v, %d", workers, got, e)
		}
		if _, e := bank.Run(nil, workers); e != want {
			t.Errorf("Errors: Run of no jobs with %d workers: %d", workers, e)
		}
		for _, fs := range [][]api.Filter{nil, {half(), double()}} {
			y, e := bank.Mix(fs, list(1), workers)
			if e != want || want != api.OK && len(y) != 0 {
				t.Errorf("Errors: Mix with %d workers: %v, %d", workers, y, e)
			}
		}
	}
	for _, workers := range []int{math.MinInt, math.MaxInt, 0, 65} {
		for _, bad := range wrong() {
			y, e := bank.Mix(bad, list(1), workers)
			refuses(t, y, e, api.ErrArg, "Errors: Mix of %d workers", workers)
			if got, e := bank.Run([]bank.Job{{Filter: bad[0]}}, workers); e != api.ErrArg || len(got) != 0 {
				t.Errorf("Errors: Run of %d workers: %v, %d", workers, got, e)
			}
		}
	}
}

func TestRunMemory(t *testing.T) {
	mix := trial.Mixer(521)
	f, samples := mix.Filter(3), mix.Samples(5)
	spare := api.Section{B0: 77, A2: -77}
	sections := append(slices.Clone(f.Sections), spare)
	roomy := append(slices.Clone(samples), 77)
	j := bank.Job{Filter: api.Filter{Gain: f.Gain, Sections: sections[:3]}, Guard: all, Samples: roomy[:5]}
	want := result(j)
	jobs := []bank.Job{j, j, j, {Filter: double()}}
	got, _ := bank.Run(jobs[:3], 2)
	again, _ := bank.Run(jobs[:3], 3)
	if !slices.EqualFunc(sections, append(slices.Clone(f.Sections), spare), trial.AlikeSection) || !trial.AlikeNumbers(roomy, append(slices.Clone(samples), 77)) || jobs[3].Filter.Gain != 2 {
		t.Error("Memory: Run changed what it was given")
	}
	clear(sections)
	clear(roomy)
	clear(jobs)
	for _, results := range [][]bank.Result{got, again} {
		for i, r := range results {
			if !alike(r, want) {
				t.Fatalf("Memory: the result %d shares memory: %v, want %v", i, r, want)
			}
			// What is written over one by one shows which of the others it is.
			trial.ScrawlList(r.Answers)
			clear(r.States[:cap(r.States)])
		}
		clear(results[:cap(results)])
	}
}

func TestRunIsAsManyGoroutinesAsWorkers(t *testing.T) {
	jobs := slices.Repeat([]bank.Job{{Filter: half(), Samples: make([]complex128, 200)}}, 200)
	for _, workers := range []int{1, 5, 64} {
		work := func() { bank.Run(jobs, workers) }
		if made := created(work); made > workers {
			t.Errorf("P26.1: %d goroutines for %d workers", made, workers)
		}
		if leaves(work) {
			t.Error("P26.5: goroutines are left behind Run")
		}
	}
}
