package narrow_test

import (
	"slices"
	"sync"
	"testing"

	"quaver/narrow"
	"quaver/trial"
)

// everyPair hands pairs of numbers to a test: edges, and mixed ones.
func everyPair(seed uint64, look func(a, b complex64)) {
	mix := mixer{trial.Mixer(seed)}
	list := corners()
	for _, a := range list {
		for range 40 {
			look(a, list[mix.Below(len(list))])
		}
	}
	for range 60000 {
		look(mix.number(), mix.number())
	}
}

func TestAddSub(t *testing.T) {
	for _, c := range []struct{ a, b, sum, difference complex64 }{
		{complex(1, 2), complex(3, 5), complex(4, 7), complex(-2, -3)},
		{complex(1, 1), complex(0x1p-24, 0x1p-25), complex(1, 1), complex(1-0x1p-24, 1)}, {complex(1+0x1p-23, 1), complex(0x1p-24, 0x1.8p-24), complex(1+0x1p-22, 1+0x1p-23), complex(1, 1-0x1p-23)},
		{complex(minus, 0), complex(minus, minus), complex(minus, 0), complex(0, 0)}, {complex(minus, minus), complex(0, minus), complex(0, minus), complex(minus, 0)}, {complex(2, -2), complex(-2, 2), complex(0, 0), complex(4, -4)},
		{complex(greatest, -greatest), complex(0x1p103, -0x1p102), complex(infinity, -greatest), complex(0x1.fffffcp127, -greatest)}, {complex(greatest, 0), complex(-greatest, 0), 0, complex(infinity, 0)},
		{complex(infinity, 1), complex(-infinity, infinity), complex(nan, infinity), complex(infinity, -infinity)}, {complex(nan, 1), complex(1, nan), complex(nan, nan), complex(nan, nan)}, {complex(nan, 1), complex(1, 1), complex(nan, 2), complex(nan, 0)},
		{complex(least, leastNormal), complex(least, -least), complex(2*least, leastNormal-least), complex(0, leastNormal+least)},
	} {
		is(t, narrow.Add(c.a, c.b), c.sum, "P4.3: Add(%x, %x)", c.a, c.b)
		is(t, narrow.Sub(c.a, c.b), c.difference, "P4.3: Sub(%x, %x)", c.a, c.b)
	}
	everyPair(1, func(a, b complex64) {
		is(t, narrow.Add(a, b), complex(plus(real(a), real(b)), plus(imag(a), imag(b))), "P4.3: Add(%x, %x)", a, b)
		is(t, narrow.Sub(a, b), complex(less(real(a), real(b)), less(imag(a), imag(b))), "P4.3: Sub(%x, %x)", a, b)
	})
}

// product is P4.4 by another road.
func product(a, b complex64) complex64 {
	ar, ai, br, bi := real(a), imag(a), real(b), imag(b)
	return complex(less(times(ar, br), times(ai, bi)), plus(times(ar, bi), times(ai, br)))
}

func TestMul(t *testing.T) {
	e, x := float32(1+0x1p-23), float32(1+0x1p-12)
	for _, c := range []struct{ a, b, want complex64 }{
		{complex(1, 2), complex(3, 4), complex(-5, 10)}, {complex(e, 0), complex(e, 0), 1 + 0x1p-22}, {complex(0, 1), complex(0, 1), complex(-1, 0)}, {complex(0, 1), complex(1, 0), complex(0, 1)},
		// Each product is rounded by itself: what 1 + 2^-11 + 2^-24 loses is not to be had back by the difference.
		{complex(x, 1+0x1p-11), complex(x, 1), complex(0, 2+0x1p-10)}, {complex(x, -1-0x1p-11), complex(1, x), complex(2+0x1p-10, 0)}, {complex(e, e), complex(e, e), complex(0, 2+0x1p-21)},
		{complex(infinity, 0), complex(1, 0), complex(infinity, nan)}, {complex(infinity, infinity), complex(1, 1), complex(nan, infinity)}, {complex(nan, 0), complex(0, 1), complex(nan, nan)}, {complex(greatest, greatest), complex(2, 2), complex(nan, infinity)}, {complex(greatest, 0), complex(2, 0), complex(infinity, 0)},
		{complex(minus, 0), complex(1, 0), complex(minus, 0)}, {complex(0, minus), complex(1, minus), complex(0, minus)}, {complex(least, 0), complex(0.5, 0), 0}, {complex(3*least, least), complex(0.5, 1), complex(2*least-least, 3*least)}, {complex(0x1p-75, 0), complex(0x1p-75, 0), 0}, {complex(0x1p-75, 0), complex(-0x1p-74, 0), complex(-least, 0)},
	} {
		is(t, narrow.Mul(c.a, c.b), c.want, "P4.4: Mul(%x, %x)", c.a, c.b)
	}
	everyPair(2, func(a, b complex64) {
		is(t, narrow.Mul(a, b), product(a, b), "P4.4: Mul(%x, %x)", a, b)
	})
}

// quotient is P4.5 by another road.
func quotient(a, b complex64) complex64 {
	ar, ai, br, bi := real(a), imag(a), real(b), imag(b)
	if size(br) >= size(bi) {
		t := over(bi, br)
		d := plus(br, times(bi, t))
		return complex(over(plus(ar, times(ai, t)), d), over(less(ai, times(ar, t)), d))
	}
	t := over(br, bi)
	d := plus(bi, times(br, t))
	return complex(over(plus(times(ar, t), ai), d), over(less(times(ai, t), ar), d))
}

func TestDiv(t *testing.T) {
	for _, c := range []struct{ a, b, want complex64 }{
		{1, complex(0, 1), complex(0, -1)}, {complex(4, 2), 2, complex(2, 1)}, {complex(1, 2), complex(3, -1), complex(0.099999994, 0.7)}, {1, complex(0, 2), complex(0, -0.5)},
		// Where the parts of b are of one size the first road is taken: the other one answers -0 here.
		{complex(1, 1), complex(1, -1), complex(0, 1)}, {complex(1, 1), complex(-1, 1), complex(minus, -1)}, {complex(2, 2), complex(1, 1), complex(2, 0)},
		{complex(1, 1), complex(infinity, 1), 0}, {complex(1, 1), complex(1, infinity), complex(0, minus)}, {complex(1, 1), complex(infinity, infinity), complex(nan, nan)}, {complex(infinity, 0), 1, complex(infinity, nan)}, {complex(1, 1), complex(nan, 1), complex(nan, nan)}, {complex(1, 1), complex(1, nan), complex(nan, nan)}, {complex(nan, 1), 2, complex(nan, nan)},
		{complex(greatest, greatest), complex(greatest, greatest), complex(nan, 0)}, {complex(greatest, 0), 0.5, complex(infinity, 0)}, {1, complex(greatest, greatest), complex(0, minus)}, {1, complex(least, 0), complex(infinity, 0)}, {complex(least, 0), complex(least, 0), 1}, {complex(0, 3*least), 2, complex(0, 2*least)},
	} {
		is(t, narrow.Div(c.a, c.b), c.want, "P4.5: Div(%x, %x)", c.a, c.b)
	}
	for _, a := range corners() {
		for _, b := range []complex64{0, complex(0, minus), complex(minus, 0), complex(minus, minus)} {
			is(t, narrow.Div(a, b), complex(nan, nan), "P4.5: Div(%x, %x)", a, b)
		}
	}
	everyPair(3, func(a, b complex64) {
		is(t, narrow.Div(a, b), quotient(a, b), "P4.5: Div(%x, %x)", a, b)
	})
}

func TestOnce(t *testing.T) {
	e, x := float32(1+0x1p-23), float32(1+0x1p-12)
	for _, c := range []struct{ a, b, want complex64 }{
		{complex(e, 0), complex(e, 0), 1 + 0x1p-22}, {complex(1, 2), complex(3, 4), complex(-5, 10)}, {complex(x, 0), complex(x, 0), 1 + 0x1p-11},
		// The products are exact: the difference finds what Mul has lost.
		{complex(x, 1+0x1p-11), complex(x, 1), complex(0x1p-24, 2+0x1p-10)},
		// Each sum is rounded twice: the first time to halfway between two float32.
		{complex(x, -0x1p-30), complex(x, 0x1p-30), complex(1+0x1p-11, 0)},
		// What is beyond float32 on the way is within it at the end.
		{complex(0x1p100, 0x1p100), complex(0x1p100, 0x1p100), complex(0, infinity)}, {complex(greatest, greatest), complex(2, 2), complex(0, infinity)}, {complex(0x1p-75, 0x1p-75), complex(0x1p-75, -0x1p-75), complex(least, 0)},
		{complex(infinity, 0), 1, complex(infinity, nan)}, {complex(minus, 0), 1, complex(minus, 0)}, {complex(0, nan), 1, complex(nan, nan)}, {complex(least, 0), complex(-0.25, 0), complex(minus, 0)},
	} {
		is(t, narrow.Once(c.a, c.b), c.want, "P4.6: Once(%x, %x)", c.a, c.b)
	}
	everyPair(4, func(a, b complex64) {
		ar, ai, br, bi := float64(real(a)), float64(imag(a)), float64(real(b)), float64(imag(b))
		want := complex(float32(ar*br-ai*bi), float32(ar*bi+ai*br)) // exact products: fused or not is all one
		is(t, narrow.Once(a, b), want, "P4.6: Once(%x, %x)", a, b)
	})
}

// magnitude is P4.7 by another road.
func magnitude(a complex64) float32 {
	m, n := size(real(a)), size(imag(a))
	if m == infinity || n == infinity {
		return infinity
	}
	if n > m {
		m, n = n, m
	}
	if m == 0 && n == 0 {
		return 0
	}
	t := over(n, m)
	return times(m, root(plus(1, times(t, t))))
}

func TestAbs(t *testing.T) {
	for _, c := range []struct {
		a    complex64
		want float32
	}{
		{complex(3, 4), 5}, {complex(-4, 3), 5}, {complex(5, -12), 13}, {complex(1, 1), 0x1.6a09e6p0}, {0, 0}, {complex(minus, 0), 0}, {complex(0, minus), 0}, {complex(minus, minus), 0},
		{complex(nan, infinity), infinity}, {complex(-infinity, nan), infinity}, {complex(nan, -infinity), infinity}, {complex(infinity, 0), infinity}, {complex(0, -infinity), infinity}, {complex(nan, 0), nan}, {complex(0, nan), nan}, {complex(nan, nan), nan}, {complex(1, nan), nan},
		{complex(-least, 0), least}, {complex(least, least), least}, {complex(3*least, -4*least), 5 * least}, {complex(greatest, 0), greatest}, {complex(minus, -greatest), greatest}, {complex(greatest, greatest), infinity}, {complex(0x1p100, 0x1p-100), 0x1p100},
	} {
		if x := narrow.Abs(c.a); !alike(x, c.want) {
			t.Errorf("P4.7: Abs(%x) = %x, want %x", c.a, x, c.want)
		}
	}
	list := corners()
	mix := mixer{5}
	for range 60000 {
		list = append(list, mix.number())
	}
	for _, a := range list {
		if x, want := narrow.Abs(a), magnitude(a); !alike(x, want) {
			t.Errorf("P4.7: Abs(%x) = %x, want %x", a, x, want)
		}
	}
}

// dot is P4.8 by another road.
func dot(a, b []complex64) complex64 {
	re, im := float32(0), float32(0)
	for i := 0; i < len(a) && i < len(b); i++ {
		p := product(a[i], b[i])
		re, im = plus(re, real(p)), plus(im, imag(p))
	}
	return complex(re, im)
}

func TestDot(t *testing.T) {
	for _, c := range []struct {
		a, b []complex64
		want complex64
	}{
		{nil, nil, 0}, {[]complex64{}, nil, 0}, {nil, []complex64{1}, 0}, {[]complex64{complex(nan, 1)}, []complex64{}, 0},
		{[]complex64{1, complex(0, 1)}, []complex64{2, complex(0, 1), 9}, 1}, {[]complex64{2, complex(0, 1), complex(nan, 9)}, []complex64{1, complex(0, 1)}, 1},
		// From the left, onto +0.
		{[]complex64{complex(minus, minus)}, []complex64{1}, complex(0, 0)}, {[]complex64{0x1p24, 1, 1}, []complex64{1, 1, 1}, 0x1p24}, {[]complex64{1, 1, 0x1p24}, []complex64{1, 1, 1}, 0x1p24 + 2}, {[]complex64{greatest, greatest, -greatest}, []complex64{1, 1, 1}, complex(infinity, 0)}, {[]complex64{greatest, -greatest, greatest}, []complex64{1, 1, 1}, greatest},
		{[]complex64{complex(infinity, 0), 1}, []complex64{1, 1}, complex(infinity, nan)},
	} {
		is(t, narrow.Dot(c.a, c.b), c.want, "P4.8: Dot(%x, %x)", c.a, c.b)
	}
	mix := mixer{6}
	for range 3000 {
		a, b := make([]complex64, mix.Below(20)), make([]complex64, mix.Below(20))
		for i := range a {
			a[i] = complex(float32(mix.Below(2001)-1000)/7, mix.part())
		}
		for i := range b {
			b[i] = complex(float32(mix.Below(2001)-1000)/9, float32(mix.Below(9)))
		}
		is(t, narrow.Dot(a, b), dot(a, b), "P4.8: Dot(%x, %x)", a, b)
	}
}

func TestDotLeavesItsLists(t *testing.T) {
	const mark = complex(77, -77)
	spare := slices.Repeat([]complex64{mark}, 4)
	was := []complex64{complex(1, 2), complex(3, minus), complex(-5, 0.1)}
	for n := range len(was) + 1 {
		whole, other := append(slices.Clone(was[:n]), spare...), append(slices.Clone(was), spare...)
		a, b := whole[:n], other[:len(was)]
		want := dot(was[:n], was)
		is(t, narrow.Dot(a, b), want, "P4.8: Dot(%x, %x)", a, b)
		is(t, narrow.Dot(b, a), dot(was, was[:n]), "P4.8: Dot(%x, %x)", b, a)
		if !slices.EqualFunc(a, was[:n], both) || !slices.EqualFunc(b, was, both) || !slices.Equal(whole[n:], spare) || !slices.Equal(other[len(was):], spare) {
			t.Errorf("Memory: Dot(%x, %x) changed what it was given", was[:n], was)
		}
	}
}

func TestManyAtATime(t *testing.T) {
	list := corners()[60:90]
	got := make([]complex64, 8)
	var group sync.WaitGroup
	for i := range got {
		group.Go(func() { got[i] = narrow.Dot(list, list) })
	}
	group.Wait()
	for _, s := range got {
		is(t, s, narrow.Dot(list, list), "P2: Dot beside others")
	}
}
