package fft_test

import (
	"math"
	"slices"
	"testing"

	"quaver/api"
	"quaver/circle"
	"quaver/cplx"
	"quaver/fft"
	"quaver/sum"
	"quaver/trial"
)

// lengths: of what length a list may be, and what is answered.
func lengths() map[int]api.Errno {
	all := map[int]api.Errno{most - 1: api.ErrArg, most + 1: api.ErrArg, 3 * most / 2: api.ErrArg, 2*most - 1: api.ErrArg, 2 * most: api.ErrLong, 2*most + 1: api.ErrArg, 3 * most: api.ErrArg, 4 * most: api.ErrLong, 1<<20 - 1: api.ErrArg, 1 << 20: api.ErrLong}
	for n := range 70 {
		all[n] = api.ErrArg
	}
	for n := 1; n <= most; n *= 2 {
		all[n] = api.OK
	}
	return all
}

func TestLengths(t *testing.T) {
	for n, want := range lengths() {
		x := slices.Repeat([]complex128{complex(nan, 1)}, n)
		count := 0
		if want == api.OK {
			count = n
		}
		for name, call := range map[string]func() ([]complex128, api.Errno){
			"P9.1: Forward": func() ([]complex128, api.Errno) { return fft.Forward(x) },
			"P9.2: Inverse": func() ([]complex128, api.Errno) { return fft.Inverse(x) },
			"P9.4: Fast":    func() ([]complex128, api.Errno) { return fft.Fast(x, x) },
			"P9.4: Round":   func() ([]complex128, api.Errno) { return fft.Round(x, x) },
		} {
			if y, e := call(); e != want || len(y) != count {
				t.Errorf("%s of %d numbers: %d numbers, %d, want %d", name, n, len(y), e, want)
			}
		}
		if want == api.OK {
			want = api.ErrNaN
		}
		if z, e := fft.Exact(x, n/2); e != want || z != 0 {
			t.Errorf("P9.5: Exact of %d numbers: %g, %d, want %d", n, z, e, want)
		}
	}
	for _, x := range [][]complex128{nil, {}} {
		if y, e := fft.Forward(x); e != api.ErrArg || len(y) != 0 {
			t.Errorf("P9.1: Forward of nothing: %g, %d", y, e)
		}
	}
}

func TestUnlikeLengths(t *testing.T) {
	counts := []int{0, 1, 2, 3, 4, most, 2 * most, 4 * most}
	for _, n := range counts {
		for _, m := range counts {
			if n == m {
				continue
			}
			a, b := make([]complex128, n), make([]complex128, m)
			if y, e := fft.Round(a, b); e != api.ErrArg || len(y) != 0 {
				t.Errorf("P9.4: Round of %d and %d numbers: %d numbers, %d", n, m, len(y), e)
			}
			if y, e := fft.Fast(a, b); e != api.ErrArg || len(y) != 0 {
				t.Errorf("P9.4: Fast of %d and %d numbers: %d numbers, %d", n, m, len(y), e)
			}
		}
	}
}

func TestRoundExamples(t *testing.T) {
	for _, c := range []struct{ a, b, want []complex128 }{
		{[]complex128{1, 2, 0, 0}, []complex128{3, 4, 0, 0}, []complex128{3, 10, 8, 0}},
		{[]complex128{1, 2, 3, 4}, []complex128{0, 1, 0, 0}, []complex128{4, 1, 2, 3}},
		{[]complex128{0, 0, complex(0, 1), 0}, []complex128{1, 2, 3, 4}, []complex128{complex(0, 3), complex(0, 4), complex(0, 1), complex(0, 2)}},
		{[]complex128{complex(1, 2)}, []complex128{complex(3, 4)}, []complex128{complex(-5, 10)}},
		// A sum from the left begins with +0.
		{[]complex128{complex(minus, 0)}, []complex128{1}, []complex128{0}},
		{[]complex128{1, complex(infinity, 0)}, []complex128{1, 0}, []complex128{complex(nan, nan), complex(infinity, nan)}},
		{[]complex128{greatest, greatest}, []complex128{1, -1}, []complex128{0, 0}},
		{[]complex128{greatest, greatest}, []complex128{1, 1}, []complex128{complex(infinity, 0), complex(infinity, 0)}},
		// From j = 0 on: 2^60 stands first, and 1 is lost beside it.
		{[]complex128{0x1p60, 1, -0x1p60, 0}, []complex128{1, 1, 1, 1}, []complex128{0, 0, 0, 0}},
		{[]complex128{0x1p60, -0x1p60, 1, 0}, []complex128{1, 1, 1, 1}, []complex128{1, 1, 1, 1}},
	} {
		y, e := fft.Round(c.a, c.b)
		same(t, y, c.want, e, "P9.4: Round(%g, %g)", c.a, c.b)
	}
}

// roundOf is P9.4 word by word.
func roundOf(a, b []complex128) []complex128 {
	var list []complex128
	for i := range a {
		s := complex128(0)
		for j := range a {
			other := i - j
			if other < 0 {
				other += len(a)
			}
			s = trial.Both(s, trial.Product(a[j], b[other]))
		}
		list = append(list, s)
	}
	return list
}

func TestRoundStepByStep(t *testing.T) {
	mix := trial.Mixer(4)
	for k := range 6 {
		for _, rule := range []func() float64{mix.Float, mix.Middle} {
			for range 64 >> k {
				a, b := mix.Numbers(1<<k, rule), mix.Numbers(1<<k, rule)
				y, e := fft.Round(a, b)
				same(t, y, roundOf(a, b), e, "P9.4: Round(%x, %x)", a, b)
			}
		}
	}
}

func TestRoundOfMost(t *testing.T) {
	mix := trial.Mixer(5)
	a, b := mix.Numbers(most, mix.Middle), mix.Numbers(most, mix.Middle)
	y, e := fft.Round(a, b)
	if e != api.OK || len(y) != most {
		t.Fatalf("P9.4: Round of %d numbers: %d numbers, %d", most, len(y), e)
	}
	for _, i := range []int{0, 1, 1000, most - 1} {
		var products []complex128
		for j := range a {
			products = append(products, cplx.Mul(a[j], b[(i+most-j)%most]))
		}
		trial.Is(t, y[i], sum.Left(products), "P9.4: Round of many at %d", i)
	}
}

func TestFast(t *testing.T) {
	mix := trial.Mixer(6)
	for k := range api.MaxLog + 1 {
		for _, rule := range []func() float64{mix.Float, mix.Middle} {
			a, b := mix.Numbers(1<<k, rule), mix.Numbers(1<<k, rule)
			list := transformOf(t, byTheProgram(), a, k, false)
			other := transformOf(t, byTheProgram(), b, k, false)
			var products []complex128
			for i := range list {
				products = append(products, cplx.Mul(list[i], other[i]))
			}
			y, e := fft.Fast(a, b)
			same(t, y, scaledOf(transformOf(t, byTheProgram(), products, k, true)), e, "P9.4: Fast(%x, %x)", a, b)
		}
	}
	a, b := mix.Numbers(64, mix.Middle), mix.Numbers(64, mix.Middle)
	y, _ := fft.Fast(a, b)
	size := cplx.Abs(sum.Left(roundOf(absOf(a), absOf(b))))
	for i, z := range roundOf(a, b) {
		if cplx.Abs(z-y[i]) > 1e-13*size {
			t.Errorf("P9.4: Fast is far from Round at %d: %g, %g", i, y[i], z)
		}
	}
	// Where a transform goes beyond the greatest number, the products round the circle do not.
	one := []complex128{1, 0}
	if y, e := fft.Fast([]complex128{greatest, greatest}, one); e != api.OK || len(y) != 2 || !math.IsInf(real(y[0]), 1) {
		t.Errorf("P9.4: Fast beyond the greatest number: %g, %d", y, e)
	}
	y, e := fft.Round([]complex128{greatest, greatest}, one)
	same(t, y, []complex128{greatest, greatest}, e, "P9.4: Round at the greatest number")
}

func absOf(list []complex128) []complex128 {
	var sizes []complex128
	for _, z := range list {
		sizes = append(sizes, complex(cplx.Abs(z), 0))
	}
	return sizes
}

// exactOf is P9.5 by true numbers.
func exactOf(x []complex128, j, k int) (complex128, api.Errno) {
	var points []complex128
	for i := range x {
		w, _ := circle.Turn(i*j, k)
		points = append(points, complex(real(w), -imag(w)))
	}
	return trial.NearestDot(x, points)
}

// sixteen is 16 noughts but for one number.
func sixteen(place int, z complex128) []complex128 {
	x := make([]complex128, 16)
	x[place] = z
	return x
}

func TestExactEdges(t *testing.T) {
	const half = 0x1p970 // half a step at the greatest number
	for _, c := range []struct {
		x    []complex128
		j    int
		want complex128
		e    api.Errno
	}{
		{[]complex128{1, 2, 3, 4}, 0, 10, api.OK}, {[]complex128{1, 2, 3, 4}, 1, complex(-2, 2), api.OK}, {[]complex128{1, 2, 3, 4}, 2, -2, api.OK}, {[]complex128{1, 2, 3, 4}, 3, complex(-2, -2), api.OK}, {[]complex128{complex(3, -4)}, 0, complex(3, -4), api.OK}, {[]complex128{complex(minus, minus)}, 0, 0, api.OK}, {[]complex128{complex(minus, 1), complex(minus, -1)}, 0, 0, api.OK},
		{[]complex128{1, 2}, 2, 0, api.ErrArg}, {[]complex128{1, 2}, -1, 0, api.ErrArg}, {[]complex128{1, 2}, math.MinInt, 0, api.ErrArg}, {[]complex128{1, 2}, math.MaxInt, 0, api.ErrArg}, {[]complex128{5}, 1, 0, api.ErrArg}, {nil, 0, 0, api.ErrArg}, {nil, -1, 0, api.ErrArg}, {[]complex128{1, 2, 3}, 3, 0, api.ErrArg}, {[]complex128{1, 2, 3}, 0, 0, api.ErrArg},
		{make([]complex128, 2*most), 0, 0, api.ErrLong}, {make([]complex128, 2*most), 2*most - 1, 0, api.ErrLong}, {make([]complex128, 2*most), 2 * most, 0, api.ErrArg}, {make([]complex128, 2*most), -1, 0, api.ErrArg}, {make([]complex128, 2*most+1), 0, 0, api.ErrArg}, {make([]complex128, most), most, 0, api.ErrArg}, {make([]complex128, most), most - 1, 0, api.OK},
		{[]complex128{complex(infinity, 0), 2}, 0, 0, api.ErrNaN}, {[]complex128{2, complex(0, nan)}, 1, 0, api.ErrNaN}, {[]complex128{2, complex(0, -infinity)}, 2, 0, api.ErrArg}, {[]complex128{complex(nan, 0), 1, 1}, 0, 0, api.ErrArg}, {slices.Repeat([]complex128{complex(nan, 0)}, 2*most), 0, 0, api.ErrLong}, {[]complex128{greatest, greatest, complex(0, nan), 0}, 0, 0, api.ErrNaN}, {[]complex128{complex(0, nan), 0, greatest, greatest}, 0, 0, api.ErrNaN},
		// Beyond the greatest number on the way, but not at the end; and the other way round.
		{[]complex128{greatest, greatest, -greatest, 1}, 0, greatest, api.OK}, {[]complex128{greatest, -greatest}, 1, 0, api.ErrOver}, {[]complex128{greatest, greatest}, 1, 0, api.OK}, {[]complex128{greatest, greatest}, 0, 0, api.ErrOver}, {[]complex128{complex(1, -greatest), complex(1, -greatest)}, 0, 0, api.ErrOver}, {[]complex128{complex(greatest, 1), greatest, complex(-greatest, 1), 1}, 0, complex(greatest, 2), api.OK},
		{[]complex128{greatest, complex(half, 0)}, 0, 0, api.ErrOver}, {[]complex128{greatest, complex(half, 0), -trial.Least, 0}, 0, greatest, api.OK}, {[]complex128{greatest, complex(-half, 0)}, 1, 0, api.ErrOver}, {[]complex128{0, greatest, 0, complex(-half, 0)}, 1, 0, api.ErrOver}, {[]complex128{0, greatest, trial.Least, complex(-half, 0)}, 1, 0, api.ErrOver}, {[]complex128{0, greatest, complex(0, -trial.Least), complex(-half, 0)}, 1, complex(0, -greatest), api.OK}, {[]complex128{0, greatest, complex(0, trial.Least), complex(-half, 0)}, 1, 0, api.ErrOver}, {[]complex128{complex(0, trial.Least), greatest, 0, complex(-half, 0)}, 1, complex(0, -greatest), api.OK},
		{[]complex128{0x1p60, 1, -0x1p60, 0}, 0, 1, api.OK}, {[]complex128{1, 0x1p-53, trial.Least, 0}, 0, 1 + 0x1p-52, api.OK}, {[]complex128{1, 0x1p-53, 0, 0}, 0, 1, api.OK},
		// What is rounded to nought has its sign: the cosine of three sixteenths of a turn is some 0.38.
		{sixteen(3, -trial.Least), 1, complex(minus, trial.Least), api.OK}, {sixteen(3, trial.Least), 1, complex(0, -trial.Least), api.OK}, {sixteen(1, trial.Least), 3, complex(0, -trial.Least), api.OK}, {sixteen(1, trial.Least), 1, complex(trial.Least, minus), api.OK}, {sixteen(15, trial.Least), 1, complex(trial.Least, 0), api.OK},
	} {
		z, e := fft.Exact(c.x, c.j)
		name := c.x[:min(len(c.x), 16)]
		if e != c.e {
			t.Errorf("P9.5: Exact(%g, %d): %d, want %d", name, c.j, e, c.e)
		}
		trial.Is(t, z, c.want, "P9.5: Exact(%g, %d)", name, c.j)
	}
}

func TestExactByAnotherRoad(t *testing.T) {
	mix := trial.Mixer(7)
	seen := map[api.Errno]int{}
	finite := func() float64 {
		x := mix.Float()
		if !trial.Finite(x) || math.Abs(x) > 0x1p1020 {
			return greatest / 3
		}
		return x
	}
	check := func(x []complex128, j, k int) {
		t.Helper()
		want, fault := exactOf(x, j, k)
		z, e := fft.Exact(x, j)
		if e != fault {
			t.Errorf("P9.5: Exact(%x, %d): %d, want %d", x, j, e, fault)
		}
		trial.Is(t, z, want, "P9.5: Exact(%x, %d)", x, j)
		seen[e]++
	}
	for k := range 6 {
		for _, rule := range []func() float64{mix.Float, mix.Middle, finite} {
			x := mix.Numbers(1<<k, rule)
			for j := range x {
				check(x, j, k)
			}
		}
	}
	if seen[api.OK] < 60 || seen[api.ErrOver] < 5 || seen[api.ErrNaN] < 20 {
		t.Errorf("the lists do not try all: %v", seen)
	}
	long := mix.Numbers(most, mix.Middle)
	for _, j := range []int{0, 1, 1365, most / 2, most - 1} {
		check(long, j, api.MaxLog)
	}
}

func TestExactOfOneNumber(t *testing.T) {
	for k := range 6 {
		points, _ := circle.Turns(k)
		for i := range points {
			for j := range points {
				x := make([]complex128, len(points))
				x[i] = 1
				w := points[i*j%len(points)]
				z, e := fft.Exact(x, j)
				if e != api.OK {
					t.Errorf("P9.5: Exact with 1 at %d of %d, at %d: %d", i, len(x), j, e)
				}
				// What is truly nought is +0.
				trial.Is(t, z, complex(real(w), 0-imag(w)), "P9.5: Exact with 1 at %d of %d, at %d", i, len(x), j)
			}
		}
	}
}

func TestMemory(t *testing.T) {
	first := func(call func(x []complex128) ([]complex128, api.Errno)) trial.ListCall {
		return func(args [][]complex128) [][]complex128 {
			y, _ := call(args[0])
			return [][]complex128{y}
		}
	}
	both := func(call func(a, b []complex128) ([]complex128, api.Errno)) trial.ListCall {
		return func(args [][]complex128) [][]complex128 {
			y, _ := call(args[0], args[1])
			return [][]complex128{y}
		}
	}
	calls := map[string]trial.ListCall{
		"Forward": first(fft.Forward), "Inverse": first(fft.Inverse), "Round": both(fft.Round), "Fast": both(fft.Fast),
		"Exact": func(args [][]complex128) [][]complex128 {
			z, _ := fft.Exact(args[0], len(args[0])/2)
			return [][]complex128{{z}}
		},
	}
	mix := trial.Mixer(8)
	for name, call := range calls {
		for _, n := range []int{0, 1, 2, 3, 4, 64, 1024} {
			a, b := mix.Numbers(n, mix.Middle), mix.Numbers(n, mix.Middle)
			if fault := trial.TouchedLists(call, a, b); fault != "" {
				t.Errorf("Memory: %s of %d numbers: %s", name, n, fault)
			}
			if fault := trial.BesideLists(call, a, b); fault != "" {
				t.Errorf("P2: %s of %d numbers: %s", name, n, fault)
			}
		}
		a := mix.Numbers(64, mix.Middle)
		if !slices.EqualFunc(call([][]complex128{a, a}), call([][]complex128{a, slices.Clone(a)}), trial.AlikeNumbers) {
			t.Errorf("Memory: %s answers otherwise when a list is handed in twice", name)
		}
	}
}
