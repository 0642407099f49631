package ratio_test

import (
	"math"
	"math/big"
	"testing"

	"quaver/api"
	"quaver/ratio"
	"quaver/trial"
)

// with is r with its sign turned, where neg.
func with(neg bool, r api.Rat) api.Rat {
	r.Neg = neg && len(r.Num) > 0
	return r
}

func TestTo(t *testing.T) {
	for _, c := range []struct {
		name string
		r    api.Rat
		want uint64
		e    api.Errno
	}{
		{"0", trial.Frac(0, 1), 0, api.OK},
		{"1/3", trial.Frac(1, 3), 0x3fd5555555555555, api.OK},
		{"2/3", trial.Frac(2, 3), 0x3fe5555555555555, api.OK},
		{"a tie down", trial.Sum(trial.Up(0), trial.Up(-53)), 0x3ff0000000000000, api.OK},
		{"a tie up", trial.Sum(trial.Up(0), trial.Up(-52), trial.Up(-53)), 0x3ff0000000000002, api.OK},
		{"more than a tie", trial.Sum(trial.Up(0), trial.Up(-53), trial.Up(-3000)), 0x3ff0000000000001, api.OK},
		{"less than a tie", trial.Sum(trial.Up(0), trial.Up(-52), trial.Up(-53), trial.Down(-3000)), 0x3ff0000000000001, api.OK},
		{"a tie that carries", trial.Sum(trial.Up(1), trial.Down(-53)), 0x4000000000000000, api.OK},
		{"half of the least", trial.Sum(trial.Up(-1075)), 0, api.OK},
		{"more than half of the least", trial.Sum(trial.Up(-1075), trial.Up(-5000)), 1, api.OK},
		{"less than half of the least", trial.Sum(trial.Up(-1075), trial.Down(-5000)), 0, api.OK},
		{"three quarters of the least", trial.Sum(trial.Up(-1075), trial.Up(-1076)), 1, api.OK},
		{"one and a half of the least", trial.Sum(trial.Up(-1074), trial.Up(-1075)), 2, api.OK},
		{"two and a half of the least", trial.Sum(trial.Up(-1073), trial.Up(-1075)), 2, api.OK},
		{"up to the least normal number", trial.Sum(trial.Up(-1022), trial.Down(-1075)), 1 << 52, api.OK},
		{"down from the least normal number", trial.Sum(trial.Up(-1022), trial.Down(-1075), trial.Down(-2000)), 1<<52 - 1, api.OK},
		{"far below", trial.Sum(trial.Up(-200000)), 0, api.OK},
		{"the greatest", trial.Sum(trial.Up(1024), trial.Down(971)), 0x7fefffffffffffff, api.OK},
		{"half a step beyond it", trial.Sum(trial.Up(1024), trial.Down(970)), 0, api.ErrOver},
		{"less than half a step beyond it", trial.Sum(trial.Up(1024), trial.Down(970), trial.Down(0)), 0x7fefffffffffffff, api.OK},
		{"a trace less than half a step beyond it", trial.Sum(trial.Up(1024), trial.Down(970), trial.Down(-3000)), 0x7fefffffffffffff, api.OK},
		{"2^1024", trial.Sum(trial.Up(1024)), 0, api.ErrOver},
		{"far beyond", trial.Sum(trial.Up(200000)), 0, api.ErrOver},
	} {
		for _, neg := range []bool{false, true} {
			want := c.want
			if neg && c.e == api.OK && len(c.r.Num) > 0 {
				want |= 1 << 63
			}
			if x, e := ratio.To(with(neg, c.r)); math.Float64bits(x) != want || e != c.e {
				t.Errorf("P2.4: To, %s (minus: %v): %x, %d, want %x, %d", c.name, neg, math.Float64bits(x), e, want, c.e)
			}
		}
	}
}

func TestTo32(t *testing.T) {
	for _, c := range []struct {
		name string
		r    api.Rat
		want uint32
		e    api.Errno
	}{
		{"0", trial.Frac(0, 1), 0, api.OK},
		{"1/3", trial.Frac(1, 3), 0x3eaaaaab, api.OK},
		{"rounded once", trial.Sum(trial.Up(0), trial.Up(-24), trial.Up(-60)), 0x3f800001, api.OK},
		{"a tie down", trial.Sum(trial.Up(0), trial.Up(-24)), 0x3f800000, api.OK},
		{"a tie up", trial.Sum(trial.Up(0), trial.Up(-23), trial.Up(-24)), 0x3f800002, api.OK},
		{"rounded once, less than a tie", trial.Sum(trial.Up(0), trial.Up(-23), trial.Up(-24), trial.Down(-90)), 0x3f800001, api.OK},
		{"half of the least", trial.Sum(trial.Up(-150)), 0, api.OK},
		{"more than half of the least", trial.Sum(trial.Up(-150), trial.Up(-1200)), 1, api.OK},
		{"three halves of the least", trial.Sum(trial.Up(-149), trial.Up(-150)), 2, api.OK},
		{"up to the least normal number", trial.Sum(trial.Up(-126), trial.Down(-150)), 1 << 23, api.OK},
		{"below every float64", trial.Sum(trial.Up(-1200)), 0, api.OK},
		{"the greatest", trial.Sum(trial.Up(128), trial.Down(104)), 0x7f7fffff, api.OK},
		{"half a step beyond it", trial.Sum(trial.Up(128), trial.Down(103)), 0, api.ErrOver},
		{"a trace less", trial.Sum(trial.Up(128), trial.Down(103), trial.Down(-40)), 0x7f7fffff, api.OK},
		{"beyond every float64", trial.Sum(trial.Up(1200)), 0, api.ErrOver},
	} {
		for _, neg := range []bool{false, true} {
			want := c.want
			if neg && c.e == api.OK && len(c.r.Num) > 0 {
				want |= 1 << 31
			}
			if x, e := ratio.To32(with(neg, c.r)); math.Float32bits(x) != want || e != c.e {
				t.Errorf("P2.4: To32, %s (minus: %v): %x, %d, want %x, %d", c.name, neg, math.Float32bits(x), e, want, c.e)
			}
		}
	}
}

// check holds To and To32 of r against another road.
func check(t *testing.T, r api.Rat) {
	t.Helper()
	x, e := ratio.To(r)
	want, _ := trial.Value(r).Float64()
	if math.IsInf(want, 0) != (e == api.ErrOver) || e == api.OK && math.Float64bits(x) != math.Float64bits(want) || e != api.OK && x != 0 {
		t.Fatalf("P2.4: To(%v) = %x, %d, want %x", r, x, e, want)
	}
	y, e := ratio.To32(r)
	narrow, _ := trial.Value(r).Float32()
	if math.IsInf(float64(narrow), 0) != (e == api.ErrOver) || e == api.OK && math.Float32bits(y) != math.Float32bits(narrow) || e != api.OK && y != 0 {
		t.Fatalf("P2.4: To32(%v) = %x, %d, want %x", r, y, e, narrow)
	}
}

func TestToNearest(t *testing.T) {
	mix := trial.Mixer(6)
	for range 5000 {
		check(t, mix.Rat(1+mix.Below(19)))
	}
	// Halfway between neighbours, a trace beside it, and quotients close by.
	for range 5000 {
		x := math.Float64frombits(mix.Bits() &^ (1 << 63))
		if mix.Below(2) == 0 {
			x = float64(math.Float32frombits(uint32(mix.Bits()) &^ (1 << 31)))
		}
		if math.IsNaN(x) || math.IsInf(x, 0) {
			continue
		}
		low, high := new(big.Rat).SetFloat64(x), math.Nextafter(x, math.Inf(1))
		if mix.Below(2) == 0 {
			high = float64(math.Nextafter32(float32(x), math.MaxFloat32))
		}
		if math.IsInf(high, 0) {
			continue
		}
		mid := low.Add(low, new(big.Rat).SetFloat64(high))
		mid.Mul(mid, big.NewRat(1, 2))
		if mix.Below(2) == 0 {
			mid.Neg(mid)
		}
		check(t, trial.Told(mid))
		trace := big.NewRat(int64(mix.Below(3)-1), math.MaxInt64)
		check(t, trial.Told(mid.Add(mid, trace.Mul(trace, mid))))
	}
}

func TestToOfFrom(t *testing.T) {
	mix := trial.Mixer(7)
	for range 5000 {
		x := math.Float64frombits(mix.Bits())
		r, e := ratio.From(x)
		if e != api.OK {
			continue
		}
		if y, e := ratio.To(r); e != api.OK || math.Float64bits(y) != math.Float64bits(x) {
			t.Fatalf("P2.4: To(From(%x)) = %x, %d", x, y, e)
		}
		narrow := math.Float32frombits(uint32(mix.Bits()))
		r, e = ratio.From(float64(narrow))
		if e != api.OK {
			continue
		}
		if y, e := ratio.To32(r); e != api.OK || math.Float32bits(y) != math.Float32bits(narrow) {
			t.Fatalf("P2.4: To32(From(%x)) = %x, %d", narrow, y, e)
		}
	}
}
