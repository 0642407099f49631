package sum_test

import (
	"math"
	"math/big"
	"slices"
	"testing"

	"quaver/api"
	"quaver/sum"
	"quaver/trial"
)

// ones is as many ones as a list has numbers.
func ones(list []complex128) []complex128 {
	return slices.Repeat([]complex128{1}, len(list))
}

func TestExactEdges(t *testing.T) {
	half := 0x1p970 // half a step at the greatest number
	for _, c := range []struct {
		list []complex128
		want complex128
		e    api.Errno
	}{
		{nil, 0, api.OK}, {[]complex128{complex(minus, minus)}, 0, api.OK}, {[]complex128{complex(minus, 1), complex(minus, -1)}, 0, api.OK},
		{[]complex128{1e308, 1e308, -1e308}, 1e308, api.OK}, {[]complex128{1e308, 1e308}, 0, api.ErrOver}, {[]complex128{complex(1, -1e308), complex(1, -1e308)}, 0, api.ErrOver},
		{[]complex128{greatest, complex(half, 0)}, 0, api.ErrOver}, {[]complex128{greatest, complex(half, 0), -trial.Least}, greatest, api.OK}, {[]complex128{-trial.Least, complex(half, 0), greatest}, greatest, api.OK}, {[]complex128{-greatest, complex(-half, 0)}, 0, api.ErrOver}, {[]complex128{greatest, complex(half/2, 0), complex(half/2, 0)}, 0, api.ErrOver},
		{[]complex128{greatest, greatest, greatest, -greatest, -greatest, -greatest, trial.Least}, trial.Least, api.OK},
		{[]complex128{1, 0x1p-53}, 1, api.OK}, {[]complex128{1, 0x1p-53, trial.Least}, 1 + 0x1p-52, api.OK}, {[]complex128{1 + 0x1p-52, 0x1p-53}, 1 + 0x1p-51, api.OK}, {[]complex128{1 + 0x1p-52, 0x1p-53, -trial.Least}, 1 + 0x1p-52, api.OK}, {[]complex128{-1, -0x1p-53, -trial.Least}, -1 - 0x1p-52, api.OK},
		{[]complex128{complex(trial.Least, -3*trial.Least), complex(-2*trial.Least, trial.Least)}, complex(-trial.Least, -2*trial.Least), api.OK},
		{[]complex128{complex(infinity, 0)}, 0, api.ErrNaN}, {[]complex128{1, complex(0, nan)}, 0, api.ErrNaN}, {[]complex128{1e308, 1e308, complex(0, -infinity)}, 0, api.ErrNaN}, {[]complex128{complex(nan, 0), 1e308, 1e308}, 0, api.ErrNaN},
	} {
		z, e := sum.Exact(c.list)
		if e != c.e {
			t.Errorf("P8.5: Exact(%g): %d, want %d", c.list, e, c.e)
		}
		trial.Is(t, z, c.want, "P8.5: Exact(%g)", c.list)
		back := slices.Clone(c.list)
		slices.Reverse(back)
		z, e = sum.ExactDot(ones(back), back)
		if e != c.e {
			t.Errorf("P8.6: ExactDot(1.., %g): %d, want %d", back, e, c.e)
		}
		trial.Is(t, z, c.want, "P8.6: ExactDot(1.., %g)", back)
	}
}

func TestExactDotEdges(t *testing.T) {
	const least = trial.Least
	for _, c := range []struct {
		a, b []complex128
		want complex128
		e    api.Errno
	}{
		{nil, []complex128{}, 0, api.OK}, {[]complex128{complex(0, 1), 1}, []complex128{complex(0, 1), 2}, 1, api.OK}, {[]complex128{complex(1, 2)}, []complex128{complex(3, 4)}, complex(-5, 10), api.OK},
		{[]complex128{0x1p60, 1, -0x1p60}, []complex128{1, 1, 1}, 1, api.OK}, {[]complex128{1e200, 1e200, 3}, []complex128{1e200, -1e200, 5}, 15, api.OK},
		// What is rounded to nought has its sign; what is truly nought is +0.
		{[]complex128{least}, []complex128{0.5}, 0, api.OK}, {[]complex128{-least}, []complex128{0.5}, complex(minus, 0), api.OK}, {[]complex128{complex(0, least)}, []complex128{complex(0, least)}, complex(minus, 0), api.OK}, {[]complex128{complex(least, -least)}, []complex128{complex(least, 0)}, complex(0, minus), api.OK}, {[]complex128{-1, complex(minus, minus)}, []complex128{0, 7}, 0, api.OK}, {[]complex128{least, -least}, []complex128{least, least}, 0, api.OK},
		{[]complex128{least}, []complex128{0x1.8p-1}, least, api.OK}, {[]complex128{least, least}, []complex128{0.5, least}, least, api.OK}, {[]complex128{3 * least}, []complex128{0.5}, 2 * least, api.OK}, {[]complex128{complex(0x1p-537, 0), complex(0, 0x1p-538)}, []complex128{0x1p-537, complex(0, -0x1p-537)}, 2 * least, api.OK},
		{[]complex128{greatest, greatest, 1}, []complex128{greatest, -greatest, least}, least, api.OK}, {[]complex128{greatest}, []complex128{greatest}, 0, api.ErrOver}, {[]complex128{complex(greatest, greatest)}, []complex128{complex(1, 1)}, 0, api.ErrOver}, {[]complex128{complex(greatest, greatest)}, []complex128{complex(0.5, 0.5)}, complex(0, greatest), api.OK}, {[]complex128{complex(0, greatest)}, []complex128{2}, 0, api.ErrOver},
		{[]complex128{1}, nil, 0, api.ErrArg}, {nil, []complex128{1}, 0, api.ErrArg}, {[]complex128{1}, []complex128{complex(infinity, 0), 1}, 0, api.ErrArg}, {[]complex128{greatest, greatest}, []complex128{greatest}, 0, api.ErrArg},
		{[]complex128{0}, []complex128{complex(infinity, 0)}, 0, api.ErrNaN}, {[]complex128{complex(0, nan)}, []complex128{0}, 0, api.ErrNaN}, {[]complex128{greatest, 1}, []complex128{greatest, complex(1, -infinity)}, 0, api.ErrNaN}, {[]complex128{complex(nan, 1), greatest}, []complex128{1, greatest}, 0, api.ErrNaN},
	} {
		z, e := sum.ExactDot(c.a, c.b)
		if e != c.e {
			t.Errorf("P8.6: ExactDot(%g, %g): %d, want %d", c.a, c.b, e, c.e)
		}
		trial.Is(t, z, c.want, "P8.6: ExactDot(%g, %g)", c.a, c.b)
	}
}

// finiteLists: lists of finite numbers of all sizes, with numbers that cancel.
func finiteLists(seed trial.Mixer, n int) [][]complex128 {
	mix := &seed
	rule := func() float64 {
		x := math.Float64frombits(mix.Bits())
		if !trial.Finite(x) {
			return greatest
		}
		return x
	}
	var all [][]complex128
	for range n {
		list := mix.Numbers(mix.Below(12), rule)
		for _, x := range slices.Clone(list) {
			// Half of them again, turned and a little off: what is left is small beside them.
			if mix.Below(2) == 0 {
				list = append(list, complex(-real(x), math.Nextafter(-imag(x), 0)))
			}
		}
		all = append(all, list)
	}
	return all
}

func TestExactByAnotherRoad(t *testing.T) {
	seen := map[api.Errno]int{}
	for _, list := range append(lists(10, 150), finiteLists(11, 300)...) {
		want, fault := trial.NearestDot(list, ones(list))
		z, e := sum.Exact(list)
		if e != fault {
			t.Errorf("P8.5: Exact(%x): %d, want %d", list, e, fault)
		}
		trial.Is(t, z, want, "P8.5: Exact(%x)", list)
		seen[e]++
	}
	mix := trial.Mixer(12)
	for _, a := range append(lists(13, 150), finiteLists(14, 300)...) {
		b := mix.Numbers(len(a), mix.Middle)
		if mix.Below(3) == 0 { // sizes that meet in the middle, where products are in the format
			for i, x := range a {
				b[i] = complex(math.Ldexp(real(b[i]), -math.Ilogb(real(x))), imag(b[i]))
			}
		}
		want, fault := trial.NearestDot(a, b)
		z, e := sum.ExactDot(a, b)
		if e != fault {
			t.Errorf("P8.6: ExactDot(%x, %x): %d, want %d", a, b, e, fault)
		}
		trial.Is(t, z, want, "P8.6: ExactDot(%x, %x)", a, b)
		seen[e]++
	}
	if seen[api.OK] < 300 || seen[api.ErrOver] < 20 || seen[api.ErrNaN] < 20 {
		t.Errorf("the lists do not try all: %v", seen)
	}
}

func TestExactOfMany(t *testing.T) {
	const n = 1 << 17
	list := make([]complex128, n)
	for i := range list {
		list[i] = complex(0.1, greatest)
		if i%2 == 1 {
			list[i] = complex(0x1p-60, -greatest)
		}
	}
	// n/2 times the float 0.1 and 2^-60: 0.1 is 0x1999999999999a * 2^-56.
	true1 := trial.True(0.1)
	true1.Add(true1, trial.True(0x1p-60))
	want := trial.Rounded(true1.Mul(true1, big.NewRat(n/2, 1)), 1)
	z, e := sum.Exact(list)
	if e != api.OK {
		t.Errorf("P8.5: Exact of many: %d", e)
	}
	trial.Is(t, z, complex(want, 0), "P8.5: Exact of many")
}
