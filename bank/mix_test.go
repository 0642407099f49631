package bank_test

import (
	"testing"

	"quaver/api"
	"quaver/bank"
	"quaver/sum"
	"quaver/trial"
)

func TestMixExamples(t *testing.T) {
	y, e := bank.Mix([]api.Filter{half(), double()}, list(1, 0), 4)
	tells(t, y, e, list(3, 0.5), "P26.2: Mix")
	for _, fs := range [][]api.Filter{nil, {}} {
		y, e = bank.Mix(fs, list(1, complex(nan, 0), -1), 1)
		tells(t, y, e, list(0, 0, 0), "P26.2: Mix without filters")
		for _, none := range [][]complex128{nil, {}} {
			y, e = bank.Mix(fs, none, 64)
			tells(t, y, e, nil, "P26.2: Mix of nothing")
			y, e = bank.Mix([]api.Filter{half()}, none, 64)
			tells(t, y, e, nil, "P26.2: Mix of no samples")
		}
	}
	// From the left, beginning with nought: no sum is of -0.
	y, e = bank.Mix([]api.Filter{{Gain: -1}}, list(0), 1)
	tells(t, y, e, list(0), "P26.2: Mix of a nought")
	y, e = bank.Mix([]api.Filter{{Gain: 0x1p53}, {Gain: 1}, {Gain: 1}}, list(1), 3)
	tells(t, y, e, list(0x1p53), "P26.2: Mix from the left")
	y, e = bank.Mix([]api.Filter{{Gain: 1}, {Gain: 1}, {Gain: 0x1p53}}, list(1), 3)
	tells(t, y, e, list(0x1p53+2), "P26.2: Mix from the left")
	y, e = bank.Mix([]api.Filter{{Gain: trial.Greatest}, {Gain: trial.Greatest}, {Gain: -trial.Greatest}}, list(1), 2)
	tells(t, y, e, list(complex(infinity, 0)), "P26.2: Mix from the left")
}

// mixed is P26.2 by another road.
func mixed(fs []api.Filter, samples []complex128) []complex128 {
	made := make([]complex128, len(samples))
	for _, f := range fs {
		for i, y := range answers(f, samples) {
			made[i] = trial.Both(made[i], y)
		}
	}
	return made
}

func TestMix(t *testing.T) {
	mix := trial.Mixer(522)
	for _, n := range []int{0, 1, 2, 3, 10, 64, 65, 100} {
		for _, fs := range [][]api.Filter{filters(&mix, n), tame(&mix, n)} {
			for _, samples := range [][]complex128{mix.Samples(3), mix.Numbers(5, mix.Middle), mix.Few(1)} {
				want := mixed(fs, samples)
				for _, workers := range []int{1, 2, 7, 64} {
					y, e := bank.Mix(fs, samples, workers)
					tells(t, y, e, want, "P26.2: Mix of %d filters, %d workers", n, workers)
				}
			}
		}
	}
}

func TestMixOfManySamples(t *testing.T) {
	// So many that they are mixed piece by piece; the sums by sum.Left.
	mix := trial.Mixer(523)
	for _, c := range []struct{ filters, samples int }{{1, 300000}, {3, 200000}, {40, 20000}, {3000, 300}} {
		fs, samples := tame(&mix, c.filters), mix.Numbers(c.samples, mix.Middle)
		var jobs []bank.Job
		for _, f := range fs {
			jobs = append(jobs, bank.Job{Filter: f, Samples: samples})
		}
		results, _ := bank.Run(jobs, 8)
		want := make([]complex128, c.samples)
		for i := range want {
			row := make([]complex128, c.filters)
			for k, r := range results {
				row[k] = r.Answers[i]
			}
			want[i] = sum.Left(row)
		}
		y, e := bank.Mix(fs, samples, 5)
		if e != api.OK || !trial.AlikeNumbers(y, want) {
			t.Errorf("P26.2: Mix of %d filters and %d samples: %d answers, %d", c.filters, c.samples, len(y), e)
		}
	}
}

func TestMixIsAsManyGoroutinesAsWorkers(t *testing.T) {
	mix := trial.Mixer(524)
	fs, samples := tame(&mix, 100), mix.Numbers(200, mix.Middle)
	for _, workers := range []int{1, 6, 64} {
		work := func() { bank.Mix(fs, samples, workers) }
		if made := created(work); made > workers {
			t.Errorf("P26.2: %d goroutines for %d workers", made, workers)
		}
		if leaves(work) {
			t.Error("P26.5: goroutines are left behind Mix")
		}
	}
}
