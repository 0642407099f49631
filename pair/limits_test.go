package pair_test

import (
	"slices"
	"testing"

	"quaver/api"
	"quaver/pair"
	"quaver/trial"
)

// counted: are there so many groups, or is there this error, with none?
func counted(t *testing.T, f api.Zpk, n int, want api.Errno) {
	t.Helper()
	groups, e := pair.Groups(f)
	if e != want || len(groups) != n {
		t.Errorf("Errors: Groups of %d zeros, %d poles and the gain %v: %d groups, %d, want %d, %d", len(f.Zeros), len(f.Poles), f.Gain, len(groups), e, n, want)
	}
}

func TestCounts(t *testing.T) {
	reals := func(n int) []complex128 { return slices.Repeat(list(0.5), n) }
	for _, zeros := range []int{0, 1, 23, 24, 25, 1000} {
		for _, poles := range []int{0, 1, 24, 25, 70000} {
			f := api.Zpk{Zeros: reals(zeros), Poles: reals(poles)}
			if zeros > api.MaxRoots || poles > api.MaxRoots {
				counted(t, f, 0, api.ErrLong)
				// A NaN's number is greater.
				f.Gain = complex(nan, 0)
				counted(t, f, 0, api.ErrLong)
				bad := slices.Repeat(list(complex(0, infinity)), 25)
				counted(t, api.Zpk{Zeros: bad, Gain: 1}, 0, api.ErrLong)
				counted(t, api.Zpk{Poles: bad, Gain: 1}, 0, api.ErrLong)
			} else {
				counted(t, f, (max(zeros, poles)+1)/2, api.OK)
			}
		}
	}
}

func TestAsManyGroupsAsSections(t *testing.T) {
	most := api.MaxSections
	for _, c := range []struct{ zeros, poles, groups int }{
		{0, most - 1, most - 1}, {0, most, most}, {0, most + 1, most + 1}, {0, 24, 24},
		{most, 0, most}, {most + 1, 0, most + 1}, {24, 0, 24},
		{most, most, most}, {most, most + 1, most + 1}, {most + 1, most, most + 1}, {most, 3, most}, {most + 1, 3, most + 1}, {24, 24, 24},
	} {
		f := api.Zpk{Zeros: apart(c.zeros), Poles: apart(c.poles), Gain: 1}
		if c.groups <= most {
			counted(t, f, c.groups, api.OK)
		} else {
			counted(t, f, 0, api.ErrLong)
		}
		// Where not all is finite, groups are not asked.
		for _, bad := range trial.Endless() {
			f.Gain = bad
			counted(t, f, 0, api.ErrNaN)
			for i := range f.Zeros {
				g := api.Zpk{Zeros: apart(c.zeros), Poles: f.Poles}
				g.Zeros[i] = bad
				counted(t, g, 0, api.ErrNaN)
			}
			for i := range f.Poles {
				g := api.Zpk{Zeros: f.Zeros, Poles: apart(c.poles)}
				g.Poles[i] = bad
				counted(t, g, 0, api.ErrNaN)
			}
		}
	}
	// Two real ones make one group; those that find a pole make none of their own.
	counted(t, api.Zpk{Zeros: append(apart(12), 1, 2, 3, 4, 5, 6, 7, 8)}, 16, api.OK)
	counted(t, api.Zpk{Zeros: append(apart(12), 1, 2, 3, 4, 5, 6, 7, 8, 9)}, 0, api.ErrLong)
	counted(t, api.Zpk{Zeros: append(apart(12), 1, 2, 3, 4, 5, 6, 7, 8, 9), Poles: list(0)}, 0, api.ErrLong)
}

func TestNumbersThatAreNotFinite(t *testing.T) {
	for _, bad := range trial.Endless() {
		counted(t, api.Zpk{Gain: bad}, 0, api.ErrNaN)
		for _, numbers := range [][]complex128{list(bad), list(1, bad), list(bad, 1, 2), append(slices.Repeat(list(0.5), 23), bad)} {
			counted(t, api.Zpk{Zeros: numbers, Gain: 1}, 0, api.ErrNaN)
			counted(t, api.Zpk{Poles: numbers, Gain: 1}, 0, api.ErrNaN)
			counted(t, api.Zpk{Zeros: list(1, 2), Poles: numbers}, 0, api.ErrNaN)
			counted(t, api.Zpk{Zeros: numbers, Poles: list(1, 2)}, 0, api.ErrNaN)
		}
	}
}

// inGroups answers the lists of all groups, and the error.
func inGroups(args [][]complex128) [][]complex128 {
	groups, e := pair.Groups(api.Zpk{Zeros: args[0], Poles: args[1], Gain: complex(3, minus)})
	all := [][]complex128{list(complex(float64(e), 0))}
	for _, g := range groups {
		all = append(all, g.Zeros, g.Poles)
	}
	return all
}

// inHalves answers what Conjugates does.
func inHalves(args [][]complex128) [][]complex128 {
	above, reals, e := pair.Conjugates(args[0])
	return [][]complex128{above, reals, list(complex(float64(e), 0))}
}

// inPlaces answers what Far and Close do.
func inPlaces(args [][]complex128) [][]complex128 {
	i, e := pair.Far(args[0])
	j, f := pair.Close(args[0], complex(1, 1))
	return [][]complex128{list(complex(float64(i), float64(e)), complex(float64(j), float64(f)))}
}

func TestMemory(t *testing.T) {
	i := complex(0, 1)
	lists := [][]complex128{nil, {}, list(1), list(i, -i, 3, 4, 5, complex(2, minus)), list(3, i, 2), list(1, complex(nan, 0)), apart(17), list(0.5, 0.5, 0.5)}
	for _, a := range lists {
		for _, b := range lists {
			if fault := trial.TouchedLists(inGroups, a, b); fault != "" {
				t.Errorf("Memory: Groups of %v and %v: %s", a, b, fault)
			}
		}
		if fault := trial.TouchedLists(inHalves, a); fault != "" {
			t.Errorf("Memory: Conjugates(%v): %s", a, fault)
		}
		if fault := trial.TouchedLists(inPlaces, a); fault != "" {
			t.Errorf("Memory: Far and Close of %v: %s", a, fault)
		}
	}
	// One list for both.
	both := func(args [][]complex128) [][]complex128 { return inGroups([][]complex128{args[0], args[0]}) }
	if fault := trial.TouchedLists(both, list(1, i, 2, -i)); fault != "" {
		t.Errorf("Memory: Groups of one list twice: %s", fault)
	}
	for name, call := range map[string]trial.ListCall{"Groups": inGroups, "Conjugates": inHalves, "Far and Close": inPlaces} {
		if fault := trial.BesideLists(call, list(1, i, 2, -i, 0.5), list(0.5, 2*i, -2*i)); fault != "" {
			t.Errorf("P2: %s: %s", name, fault)
		}
	}
}

// The list of groups is new memory as well.
func TestMemoryOfTheGroups(t *testing.T) {
	f := api.Zpk{Zeros: list(1, 2, 3), Poles: list(0.5, 0.25, 0.125)}
	first, _ := pair.Groups(f)
	want := grouped(f)
	second, _ := pair.Groups(f)
	for i := range second[:cap(second)] {
		second[:cap(second)][i] = api.Group{}
	}
	if third, e := pair.Groups(f); e != api.OK || !sameGroups(first, want) || !sameGroups(third, want) {
		t.Errorf("Memory: two answers of Groups share memory: %v, %v, %d", first, third, e)
	}
}
