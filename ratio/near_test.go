package ratio_test

import (
	"math"
	"math/big"
	"testing"

	"quaver/api"
	"quaver/ratio"
)

// with is r with its sign turned, where neg.
func with(neg bool, r api.Rat) api.Rat {
	r.Neg = neg && len(r.Num) > 0
	return r
}

func TestTo(t *testing.T) {
	for _, c := range []struct {
		name string
		r    api.Rat
		want uint64
		e    api.Errno
	}{
		{"0", frac(0, 1), 0, api.OK},
		{"1/3", frac(1, 3), 0x3fd5555555555555, api.OK},
		{"2/3", frac(2, 3), 0x3fe5555555555555, api.OK},
		{"a tie down", sum(up(0), up(-53)), 0x3ff0000000000000, api.OK},
		{"a tie up", sum(up(0), up(-52), up(-53)), 0x3ff0000000000002, api.OK},
		{"more than a tie", sum(up(0), up(-53), up(-3000)), 0x3ff0000000000001, api.OK},
		{"less than a tie", sum(up(0), up(-52), up(-53), down(-3000)), 0x3ff0000000000001, api.OK},
		{"a tie that carries", sum(up(1), down(-53)), 0x4000000000000000, api.OK},
		{"half of the least", sum(up(-1075)), 0, api.OK},
		{"more than half of the least", sum(up(-1075), up(-5000)), 1, api.OK},
		{"less than half of the least", sum(up(-1075), down(-5000)), 0, api.OK},
		{"three quarters of the least", sum(up(-1075), up(-1076)), 1, api.OK},
		{"one and a half of the least", sum(up(-1074), up(-1075)), 2, api.OK},
		{"two and a half of the least", sum(up(-1073), up(-1075)), 2, api.OK},
		{"up to the least normal number", sum(up(-1022), down(-1075)), 1 << 52, api.OK},
		{"down from the least normal number", sum(up(-1022), down(-1075), down(-2000)), 1<<52 - 1, api.OK},
		{"far below", sum(up(-200000)), 0, api.OK},
		{"the greatest", sum(up(1024), down(971)), 0x7fefffffffffffff, api.OK},
		{"half a step beyond it", sum(up(1024), down(970)), 0, api.ErrOver},
		{"less than half a step beyond it", sum(up(1024), down(970), down(0)), 0x7fefffffffffffff, api.OK},
		{"a trace less than half a step beyond it", sum(up(1024), down(970), down(-3000)), 0x7fefffffffffffff, api.OK},
		{"2^1024", sum(up(1024)), 0, api.ErrOver},
		{"far beyond", sum(up(200000)), 0, api.ErrOver},
	} {
		for _, neg := range []bool{false, true} {
			want := c.want
			if neg && c.e == api.OK && len(c.r.Num) > 0 {
				want |= 1 << 63
			}
			if x, e := ratio.To(with(neg, c.r)); math.Float64bits(x) != want || e != c.e {
				t.Errorf("P2.4: To, %s (minus: %v): %x, %d, want %x, %d", c.name, neg, math.Float64bits(x), e, want, c.e)
			}
		}
	}
}

func TestTo32(t *testing.T) {
	for _, c := range []struct {
		name string
		r    api.Rat
		want uint32
		e    api.Errno
	}{
		{"0", frac(0, 1), 0, api.OK},
		{"1/3", frac(1, 3), 0x3eaaaaab, api.OK},
		{"rounded once", sum(up(0), up(-24), up(-60)), 0x3f800001, api.OK},
		{"a tie down", sum(up(0), up(-24)), 0x3f800000, api.OK},
		{"a tie up", sum(up(0), up(-23), up(-24)), 0x3f800002, api.OK},
		{"rounded once, less than a tie", sum(up(0), up(-23), up(-24), down(-90)), 0x3f800001, api.OK},
		{"half of the least", sum(up(-150)), 0, api.OK},
		{"more than half of the least", sum(up(-150), up(-1200)), 1, api.OK},
		{"three halves of the least", sum(up(-149), up(-150)), 2, api.OK},
		{"up to the least normal number", sum(up(-126), down(-150)), 1 << 23, api.OK},
		{"below every float64", sum(up(-1200)), 0, api.OK},
		{"the greatest", sum(up(128), down(104)), 0x7f7fffff, api.OK},
		{"half a step beyond it", sum(up(128), down(103)), 0, api.ErrOver},
		{"a trace less", sum(up(128), down(103), down(-40)), 0x7f7fffff, api.OK},
		{"beyond every float64", sum(up(1200)), 0, api.ErrOver},
	} {
		for _, neg := range []bool{false, true} {
			want := c.want
			if neg && c.e == api.OK && len(c.r.Num) > 0 {
				want |= 1 << 31
			}
			if x, e := ratio.To32(with(neg, c.r)); math.Float32bits(x) != want || e != c.e {
				t.Errorf("P2.4: To32, %s (minus: %v): %x, %d, want %x, %d", c.name, neg, math.Float32bits(x), e, want, c.e)
			}
		}
	}
}

// check holds To and To32 of r against another road.
func check(t *testing.T, r api.Rat) {
	t.Helper()
	x, e := ratio.To(r)
	want, _ := value(r).Float64()
	if math.IsInf(want, 0) != (e == api.ErrOver) || e == api.OK && math.Float64bits(x) != math.Float64bits(want) || e != api.OK && x != 0 {
		t.Fatalf("P2.4: To(%v) = %x, %d, want %x", r, x, e, want)
	}
	y, e := ratio.To32(r)
	narrow, _ := value(r).Float32()
	if math.IsInf(float64(narrow), 0) != (e == api.ErrOver) || e == api.OK && math.Float32bits(y) != math.Float32bits(narrow) || e != api.OK && y != 0 {
		t.Fatalf("P2.4: To32(%v) = %x, %d, want %x", r, y, e, narrow)
	}
}

func TestToNearest(t *testing.T) {
	mix := mixer(6)
	for range 5000 {
		check(t, mix.rat(t, 1+mix.below(19)))
	}
	// Halfway between neighbours, a trace beside it, and quotients close by.
	for range 5000 {
		x := math.Float64frombits(mix.bits() &^ (1 << 63))
		if mix.below(2) == 0 {
			x = float64(math.Float32frombits(uint32(mix.bits()) &^ (1 << 31)))
		}
		if math.IsNaN(x) || math.IsInf(x, 0) {
			continue
		}
		low, high := new(big.Rat).SetFloat64(x), math.Nextafter(x, math.Inf(1))
		if mix.below(2) == 0 {
			high = float64(math.Nextafter32(float32(x), math.MaxFloat32))
		}
		if math.IsInf(high, 0) {
			continue
		}
		mid := low.Add(low, new(big.Rat).SetFloat64(high))
		mid.Mul(mid, big.NewRat(1, 2))
		if mix.below(2) == 0 {
			mid.Neg(mid)
		}
		check(t, told(mid))
		trace := big.NewRat(int64(mix.below(3)-1), math.MaxInt64)
		check(t, told(mid.Add(mid, trace.Mul(trace, mid))))
	}
}

func TestToOfFrom(t *testing.T) {
	mix := mixer(7)
	for range 5000 {
		x := math.Float64frombits(mix.bits())
		r, e := ratio.From(x)
		if e != api.OK {
			continue
		}
		if y, e := ratio.To(r); e != api.OK || math.Float64bits(y) != math.Float64bits(x) {
			t.Fatalf("P2.4: To(From(%x)) = %x, %d", x, y, e)
		}
		narrow := math.Float32frombits(uint32(mix.bits()))
		r, e = ratio.From(float64(narrow))
		if e != api.OK {
			continue
		}
		if y, e := ratio.To32(r); e != api.OK || math.Float32bits(y) != math.Float32bits(narrow) {
			t.Fatalf("P2.4: To32(From(%x)) = %x, %d", narrow, y, e)
		}
	}
}
