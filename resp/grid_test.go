package resp_test

import (
	"slices"
	"testing"

	"quaver/api"
	"quaver/circle"
	"quaver/resp"
	"quaver/trial"
)

// grid is the answers at 2^k points, which Grid does not refuse.
func grid(t *testing.T, f api.Filter, k int) []complex128 {
	t.Helper()
	answers, e := resp.Grid(f, k)
	if e != api.OK || len(answers) != 1<<k {
		t.Fatalf("P22.3: Grid(%x, %d): %d places, %d", f, k, len(answers), e)
	}
	return answers
}

func TestGridExamples(t *testing.T) {
	for _, c := range []struct {
		f    api.Filter
		k    int
		want []complex128
	}{
		{half(), 0, list(2)}, {half(), 1, list(2, 1/1.5)}, {of(3i), 2, list(3i, 3i, 3i, 3i)},
		{of(1, api.Section{B1: 1}), 2, list(1, -1i, -1, 1i)}, {of(2, api.Section{B0: 1, B2: 1}), 2, list(4, 0, 4, 0)},
	} {
		if got := grid(t, c.f, c.k); !slices.Equal(got, c.want) {
			t.Errorf("P22.3: Grid(%v, %d) = %v, want %v", c.f, c.k, got, c.want)
		}
	}
}

func TestGridByAnotherRoad(t *testing.T) {
	mix := trial.Mixer(225)
	for round := range 60 {
		f, k := mixed(&mix, 3, mix.Kind()), round%6
		points, e := circle.Turns(k)
		if e != api.OK {
			t.Fatalf("P7.3: Turns(%d): %d", k, e)
		}
		for i, got := range grid(t, f, k) {
			if want := stepped(f, points[i]); !trial.AlikeNumber(got, want) {
				t.Fatalf("P22.3: Grid(%x, %d), the place %d: %x, want %x", f, k, i, got, want)
			}
		}
	}
}

func TestGridBesideAt(t *testing.T) {
	mix := trial.Mixer(226)
	full := of(complex(0.25, -0.5))
	for range api.MaxSections {
		full.Sections = append(full.Sections, mix.Section(func() float64 { return mix.Middle() / 128 }))
	}
	endless := of(complex(infinity, nan), api.Section{B0: complex(nan, 0), A1: complex(0, infinity)})
	for _, f := range []api.Filter{of(0), half(), full, endless} {
		for k := range api.MaxLog + 1 {
			points, _ := circle.Turns(k)
			for i, got := range grid(t, f, k) {
				if want := at(t, f, points[i]); !trial.AlikeNumber(got, want) {
					t.Fatalf("P22.3: Grid(%x, %d), the place %d: %x, At %x", f, k, i, got, want)
				}
			}
		}
	}
}

func TestGridErrors(t *testing.T) {
	full, beyond := of(1, make([]api.Section, api.MaxSections)...), of(1, make([]api.Section, api.MaxSections+1)...)
	for _, c := range []struct {
		f    api.Filter
		k    int
		want api.Errno
	}{
		{half(), -1, api.ErrArg}, {half(), -1 << 62, api.ErrArg}, {beyond, -1, api.ErrArg}, {full, -5, api.ErrArg},
		{half(), api.MaxLog + 1, api.ErrLong}, {half(), api.MaxTurn, api.ErrLong}, {half(), api.MaxTurn + 1, api.ErrLong}, {half(), 64, api.ErrLong}, {half(), 1 << 62, api.ErrLong},
		{beyond, 0, api.ErrLong}, {beyond, api.MaxLog, api.ErrLong}, {beyond, api.MaxLog + 1, api.ErrLong},
	} {
		if got, e := resp.Grid(c.f, c.k); e != c.want || len(got) != 0 {
			t.Errorf("P22.3: Grid of %d sections, %d: %d places, %d, want %d", len(c.f.Sections), c.k, len(got), e, c.want)
		}
	}
	grid(t, full, api.MaxLog)
}
