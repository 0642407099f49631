package sum_test

import (
	"math"
	"slices"
	"testing"

	"quaver/api"
	"quaver/sum"
	"quaver/trial"
)

const greatest = trial.Greatest

var (
	minus    = math.Copysign(0, -1)
	infinity = math.Inf(1)
	nan      = math.NaN()
)

// lists: lists of any numbers, of numbers of a middle size, of small whole numbers, and some in which numbers come again with the other sign.
func lists(seed trial.Mixer, n int) [][]complex128 {
	mix := &seed
	var all [][]complex128
	for range n {
		for _, rule := range []func() float64{mix.Float, mix.Middle, func() float64 { return float64(mix.Below(9) - 4) }} {
			list := mix.Numbers(mix.Below(20), rule)
			for i := range list {
				if mix.Below(4) == 0 {
					list[i] = -list[mix.Below(i+1)]
				}
			}
			all = append(all, list)
		}
	}
	return all
}

func TestTwo(t *testing.T) {
	for _, c := range []struct{ x, y, s, d float64 }{
		{1, 0x1p-60, 1, 0x1p-60}, {0x1p-60, 1, 1, 0x1p-60}, {0x1p53, 1, 0x1p53, 1}, {0x1p53, 3, 0x1p53 + 4, -1}, {-0x1p53, -1, -0x1p53, -1}, {0.5, 0.25, 0.75, 0}, {1, -1, 0, 0}, {0.1, 0.2, 0.30000000000000004, -0x1p-55},
		{0, 0, 0, 0}, {minus, minus, minus, 0}, {minus, 0, 0, 0}, {0, minus, 0, 0}, {trial.Least, trial.Least, 2 * trial.Least, 0}, {greatest, trial.Least, greatest, trial.Least},
		{infinity, 1, infinity, nan}, {1, -infinity, -infinity, nan}, {infinity, -infinity, nan, nan}, {nan, 1, nan, nan}, {1, nan, nan, nan}, {greatest, greatest, infinity, nan}, {-greatest, -greatest, -infinity, nan},
	} {
		if s, d := sum.Two(c.x, c.y); !trial.AlikeFloat(s, c.s) || !trial.AlikeFloat(d, c.d) {
			t.Errorf("P8.1: Two(%x, %x) = %x, %x, want %x, %x", c.x, c.y, s, d, c.s, c.d)
		}
	}
}

func TestTwoByAnotherRoad(t *testing.T) {
	mix := trial.Mixer(1)
	look := func(x, y float64) {
		t.Helper()
		s := trial.Plus(x, y)
		b := trial.Less(s, x)
		d := trial.Plus(trial.Less(x, trial.Less(s, b)), trial.Less(y, b))
		if gs, gd := sum.Two(x, y); !trial.AlikeFloat(gs, s) || !trial.AlikeFloat(gd, d) {
			t.Errorf("P8.1: Two(%x, %x) = %x, %x, want %x, %x", x, y, gs, gd, s, d)
		}
	}
	for _, x := range trial.Floats() {
		for _, y := range trial.Floats() {
			look(x, y)
		}
	}
	for range 3000 {
		look(mix.Float(), mix.Float())
		x, y := mix.Middle(), mix.Middle()
		look(x, y)
		s, d := sum.Two(x, y)
		true1, true2 := trial.True(x), trial.True(s)
		if true1.Add(true1, trial.True(y)).Cmp(true2.Add(true2, trial.True(d))) != 0 {
			t.Errorf("P8.1: Two(%x, %x) = %x, %x: their sums are not one", x, y, s, d)
		}
	}
}

// way is one way to sum a list.
type way struct {
	name string
	call func([]complex128) complex128
}

func ways() []way {
	return []way{{"P8.2: Left", sum.Left}, {"P8.3: Pairs", sum.Pairs}, {"P8.4: Kept", sum.Kept}, {"P8.5: Exact", func(list []complex128) complex128 {
		z, e := sum.Exact(list)
		if e != api.OK {
			return complex(nan, nan)
		}
		return z
	}}}
}

// few: lists and what Left, Pairs, Kept and Exact answer of them, with NaNs where Exact has an error.
func few() []struct {
	list []complex128
	want [4]complex128
} {
	const tiny, up = 0x1p-53, 1 + 0x1p-52
	z, none := complex(minus, minus), complex(nan, nan)
	return []struct {
		list []complex128
		want [4]complex128
	}{
		{nil, [4]complex128{}},
		{[]complex128{}, [4]complex128{}},
		{[]complex128{complex(3, -4)}, [4]complex128{complex(3, -4), complex(3, -4), complex(3, -4), complex(3, -4)}},
		{[]complex128{1, tiny, tiny}, [4]complex128{1, 1, up, up}},
		{[]complex128{tiny, tiny, 1}, [4]complex128{up, up, up, up}},
		{[]complex128{tiny, tiny, 1, 0}, [4]complex128{up, up, up, up}},
		{[]complex128{1, tiny, tiny, tiny}, [4]complex128{1, up, up + 0x1p-52, up + 0x1p-52}},
		// Two of three stand in front: (1 + tiny) + tiny, where 1 + (tiny + tiny) would be more; of five three.
		{[]complex128{1, tiny, tiny, 0, 0}, [4]complex128{1, 1, up, up}},
		{[]complex128{0, 0, 1, tiny, tiny}, [4]complex128{1, up, up, up}},
		{[]complex128{complex(0, 1), complex(0, tiny), complex(0, tiny)}, [4]complex128{complex(0, 1), complex(0, 1), complex(0, up), complex(0, up)}},
		{[]complex128{up, tiny}, [4]complex128{up + 0x1p-52, up + 0x1p-52, up + 0x1p-52, up + 0x1p-52}}, // a tie, to the even one above
		{[]complex128{z}, [4]complex128{0, z, 0, 0}},
		{[]complex128{z, z}, [4]complex128{0, z, 0, 0}},
		{[]complex128{z, z, z, z, z}, [4]complex128{0, z, 0, 0}},
		{[]complex128{z, 0}, [4]complex128{0, 0, 0, 0}},
		{[]complex128{complex(minus, 0), complex(minus, minus)}, [4]complex128{0, complex(minus, 0), 0, 0}},
		{[]complex128{complex(1, -2), complex(-1, 2)}, [4]complex128{}},
		{[]complex128{0x1p60, 1, -0x1p60}, [4]complex128{0, 0, 1, 1}},
		{[]complex128{1, 0x1p60, -0x1p60}, [4]complex128{0, 0, 1, 1}},
		{[]complex128{1, 0x1p120, 1, -0x1p120}, [4]complex128{0, 0, 2, 2}},
		{[]complex128{complex(1, 0x1p60), complex(0x1p60, 1), complex(-0x1p60, -0x1p60)}, [4]complex128{0, 0, complex(1, 1), complex(1, 1)}},
		{[]complex128{1e308, 1e308, -1e308}, [4]complex128{complex(infinity, 0), complex(infinity, 0), complex(nan, 0), 1e308}},
		{[]complex128{1e308, 1e308}, [4]complex128{complex(infinity, 0), complex(infinity, 0), complex(nan, 0), none}},
		{[]complex128{complex(0, -1e308), complex(1, -1e308), complex(1, 1e308)}, [4]complex128{complex(2, -infinity), complex(2, -infinity), complex(2, nan), complex(2, -1e308)}},
		{[]complex128{complex(infinity, 0)}, [4]complex128{complex(infinity, 0), complex(infinity, 0), complex(nan, 0), none}},
		{[]complex128{complex(1, -infinity), 1}, [4]complex128{complex(2, -infinity), complex(2, -infinity), complex(2, nan), none}},
		{[]complex128{complex(infinity, 1), complex(-infinity, 1)}, [4]complex128{complex(nan, 2), complex(nan, 2), complex(nan, 2), none}},
		{[]complex128{complex(nan, 1), complex(1, 1)}, [4]complex128{complex(nan, 2), complex(nan, 2), complex(nan, 2), none}},
		{[]complex128{complex(1, 1), complex(1, nan)}, [4]complex128{complex(2, nan), complex(2, nan), complex(2, nan), none}},
		{[]complex128{trial.Least, trial.Least, -3 * trial.Least}, [4]complex128{-trial.Least, -trial.Least, -trial.Least, -trial.Least}},
	}
}

func TestFew(t *testing.T) {
	for _, c := range few() {
		for i, way := range ways() {
			trial.Is(t, way.call(c.list), c.want[i], way.name+"(%g)", c.list)
		}
	}
}

// leftOf is P8.2, pairsOf P8.3, keptOf P8.4 of one part, by another road.
func leftOf(list []complex128) complex128 {
	s := complex128(0)
	for _, x := range list {
		s = trial.Both(s, x)
	}
	return s
}

func pairsOf(list []complex128) complex128 {
	switch n := len(list); n {
	case 0:
		return 0
	case 1:
		return list[0]
	default:
		return trial.Both(pairsOf(list[:n-n/2]), pairsOf(list[n-n/2:]))
	}
}

func keptOf(list []float64) float64 {
	s, c := 0.0, 0.0
	for _, x := range list {
		t := trial.Plus(s, x)
		left := trial.Plus(trial.Less(x, t), s)
		if math.Abs(s) >= math.Abs(x) {
			left = trial.Plus(trial.Less(s, t), x)
		}
		c = trial.Plus(c, left)
		s = t
	}
	return trial.Plus(s, c)
}

// parts are the real and the imaginary parts of a list.
func parts(list []complex128) (re, im []float64) {
	for _, x := range list {
		re, im = append(re, real(x)), append(im, imag(x))
	}
	return re, im
}

func TestStepByStep(t *testing.T) {
	all := lists(2, 500)
	mix := trial.Mixer(3)
	for n := range 70 {
		all = append(all, mix.Numbers(n, mix.Middle))
	}
	for _, x := range trial.Floats() {
		for _, y := range trial.Floats() { // every way through Kept
			all = append(all, []complex128{complex(x, y), complex(y, x)}, []complex128{complex(1, x), complex(y, 1), complex(-1, y)})
		}
	}
	for _, list := range all {
		re, im := parts(list)
		trial.Is(t, sum.Left(list), leftOf(list), "P8.2: Left(%x)", list)
		trial.Is(t, sum.Pairs(list), pairsOf(list), "P8.3: Pairs(%x)", list)
		trial.Is(t, sum.Kept(list), complex(keptOf(re), keptOf(im)), "P8.4: Kept(%x)", list)
	}
}

func TestSumsThatAreExact(t *testing.T) {
	mix := trial.Mixer(4)
	for range 300 {
		top := int(1) << (1 + mix.Below(28))
		list := mix.Numbers(mix.Below(1000), func() float64 { return float64(mix.Below(top) - top/2) })
		left := sum.Left(list)
		for _, way := range ways() {
			if s := way.call(list); s != left {
				t.Errorf("P8.8: %s of %d whole numbers is %g, Left %g", way.name, len(list), s, left)
			}
		}
	}
}

func TestDot(t *testing.T) {
	for _, c := range []struct {
		a, b []complex128
		want complex128
		e    api.Errno
	}{
		{nil, []complex128{}, 0, api.OK},
		{[]complex128{complex(0, 1), 1}, []complex128{complex(0, 1), 2}, 1, api.OK},
		{[]complex128{complex(1, 2)}, []complex128{complex(3, 4)}, complex(-5, 10), api.OK},
		{[]complex128{-1}, []complex128{0}, 0, api.OK},
		{[]complex128{1}, nil, 0, api.ErrArg}, {nil, []complex128{1}, 0, api.ErrArg}, {[]complex128{1}, []complex128{complex(infinity, 0), 1}, 0, api.ErrArg}, {[]complex128{1, 2, 3}, []complex128{1, 2}, 0, api.ErrArg},
		{[]complex128{0}, []complex128{complex(infinity, 0)}, complex(nan, nan), api.OK},
		{[]complex128{1e200, 1e200}, []complex128{1e200, -1e200}, complex(nan, 0), api.OK},
		{[]complex128{0x1p60, 1, -0x1p60}, []complex128{1, 1, 1}, 0, api.OK},
	} {
		z, e := sum.Dot(c.a, c.b)
		if e != c.e {
			t.Errorf("P8.6: Dot(%g, %g): %d, want %d", c.a, c.b, e, c.e)
		}
		trial.Is(t, z, c.want, "P8.6: Dot(%g, %g)", c.a, c.b)
	}
	mix := trial.Mixer(5)
	for _, a := range lists(6, 300) {
		b := mix.Numbers(len(a), mix.Float)
		var products []complex128
		for i := range a {
			products = append(products, trial.Product(a[i], b[i]))
		}
		z, e := sum.Dot(a, b)
		if e != api.OK {
			t.Errorf("P8.6: Dot(%x, %x): %d", a, b, e)
		}
		trial.Is(t, z, leftOf(products), "P8.6: Dot(%x, %x)", a, b)
	}
}

func TestHorner(t *testing.T) {
	for _, c := range []struct {
		list    []complex128
		z, want complex128
	}{
		{[]complex128{1, 2, 3}, 2, 17}, {[]complex128{1, 0, 1}, complex(0, 1), 0}, {[]complex128{complex(1, 1)}, 5, complex(1, 1)},
		{nil, complex(nan, 0), 0}, {[]complex128{}, complex(infinity, nan), 0}, {[]complex128{1}, complex(infinity, 0), complex(nan, nan)}, {[]complex128{1}, complex(0, nan), complex(nan, nan)},
		{[]complex128{complex(minus, minus)}, 0, 0}, {[]complex128{complex(minus, minus)}, -1, complex(minus, 0)}, // 0 * -1 - 0 * 0 is -0, 0 * 0 + 0 * -1 is not
		{[]complex128{1, greatest, greatest}, 2, complex(infinity, nan)}, {[]complex128{greatest, greatest}, 1, complex(infinity, 0)},
	} {
		trial.Is(t, sum.Horner(c.list, c.z), c.want, "P8.7: Horner(%g, %g)", c.list, c.z)
	}
	mix := trial.Mixer(7)
	for _, list := range lists(8, 300) {
		z := complex(mix.Float(), mix.Middle())
		want := complex128(0)
		for _, c := range slices.Backward(list) {
			want = trial.Both(trial.Product(want, z), c)
		}
		trial.Is(t, sum.Horner(list, z), want, "P8.7: Horner(%x, %x)", list, z)
	}
}

func TestMemory(t *testing.T) {
	calls := map[string]trial.ListCall{
		"Dot": func(args [][]complex128) [][]complex128 {
			z, _ := sum.Dot(args[0], args[1])
			return [][]complex128{{z}}
		},
		"ExactDot": func(args [][]complex128) [][]complex128 {
			z, _ := sum.ExactDot(args[0], args[1])
			return [][]complex128{{z}}
		},
		"Horner": func(args [][]complex128) [][]complex128 {
			return [][]complex128{{sum.Horner(args[0], complex(0.5, -0.25))}}
		},
	}
	for _, way := range ways() {
		calls[way.name] = func(args [][]complex128) [][]complex128 { return [][]complex128{{way.call(args[0])}} }
	}
	mix := trial.Mixer(9)
	for name, call := range calls {
		for _, n := range []int{0, 1, 2, 3, 17, 64} {
			a, b := mix.Numbers(n, mix.Middle), mix.Numbers(n, mix.Middle)
			if fault := trial.TouchedLists(call, a, b); fault != "" {
				t.Errorf("Memory: %s of %d numbers: %s", name, n, fault)
			}
			if fault := trial.BesideLists(call, a, b); fault != "" {
				t.Errorf("P2: %s of %d numbers: %s", name, n, fault)
			}
		}
	}
}
