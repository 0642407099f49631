package part_test

import (
	"math"
	"math/big"
	"testing"

	"quaver/api"
	"quaver/part"
	"quaver/trial"
)

const (
	least       = 0x1p-1074
	leastNormal = 0x1p-1022
	greatest    = math.MaxFloat64
)

var (
	minusNought = math.Copysign(0, -1)
	infinity    = math.Inf(1)
	nan         = math.NaN()
)

// nans: quiet and signalling ones, of either sign.
func nans() []float64 {
	var list []float64
	for _, b := range []uint64{0x7ff8000000000000, 0x7ff0000000000001, 0x7fffffffffffffff, 0xfff8000000000123, 0xfff0000000000001, 0xffffffffffffffff} {
		list = append(list, math.Float64frombits(b))
	}
	return list
}

// rising: numbers of every class but NaN, in the order of floats.
func rising() []float64 {
	up := []float64{0, least, 2 * least, 0x1p-1023, leastNormal - least, leastNormal, leastNormal + least, 0x1p-53, 0.1, 0.75, 1 - 0x1p-53, 1, 1 + 0x1p-52, 2, 3, 0x1p53, 0x1p1023, 0x1.ffffffffffffep1023, greatest, infinity}
	var list []float64
	for i := len(up) - 1; i >= 0; i-- {
		list = append(list, -up[i])
	}
	return append(list, up...)
}

// alike: bit by bit; NaNs are one.
func alike(x, y float64) bool {
	return math.Float64bits(x) == math.Float64bits(y) || math.IsNaN(x) && math.IsNaN(y)
}

func TestOf(t *testing.T) {
	for _, c := range []struct {
		x    float64
		want api.Class
	}{
		{0, api.Zero}, {minusNought, api.Zero},
		{least, api.Subnormal}, {-least, api.Subnormal}, {leastNormal - least, api.Subnormal}, {least - leastNormal, api.Subnormal},
		{leastNormal, api.Normal}, {-leastNormal, api.Normal}, {1, api.Normal}, {-greatest, api.Normal}, {greatest, api.Normal},
		{infinity, api.Infinite}, {-infinity, api.Infinite},
	} {
		if got := part.Of(c.x); got != c.want {
			t.Errorf("P1.1: Of(%g) = %d, want %d", c.x, got, c.want)
		}
	}
	for _, x := range nans() {
		if got := part.Of(x); got != api.NaN {
			t.Errorf("P1.1: Of(%x) = %d, want NaN", math.Float64bits(x), got)
		}
	}
}

func TestSplit(t *testing.T) {
	for _, c := range []struct {
		x   float64
		neg bool
		m   uint64
		e   int
	}{
		{1, false, 1 << 52, -52}, {-0.75, true, 3 << 51, -53}, {least, false, 1, -1074}, {-least, true, 1, -1074}, {minusNought, true, 0, -1074}, {0, false, 0, -1074}, {leastNormal - least, false, 1<<52 - 1, -1074}, {leastNormal, false, 1 << 52, -1074}, {2 * leastNormal, false, 1 << 52, -1073}, {-greatest, true, 1<<53 - 1, 971},
	} {
		if neg, m, e, fault := part.Split(c.x); neg != c.neg || m != c.m || e != c.e || fault != api.OK {
			t.Errorf("P1.2: Split(%g) = %v, %d, %d, %d, want %v, %d, %d", c.x, neg, m, e, fault, c.neg, c.m, c.e)
		}
	}
	for _, x := range append(nans(), infinity, -infinity) {
		if neg, m, e, fault := part.Split(x); neg || m != 0 || e != 0 || fault != api.ErrNaN {
			t.Errorf("P1.2: Split(%x) = %v, %d, %d, %d, want ErrNaN", math.Float64bits(x), neg, m, e, fault)
		}
	}
}

func TestJoinExamples(t *testing.T) {
	for _, c := range []struct {
		neg  bool
		m    uint64
		e    int
		want float64
	}{
		{false, 1, 0, 1}, {true, 3, -2, -0.75},
		{false, 1, -1074, least}, {false, 1, -1075, 0}, {true, 1, -1075, minusNought}, {false, 3, -1076, least}, {false, 3, -1075, 2 * least}, {true, 1, -2000, minusNought},
		{false, 1<<53 + 1, 0, 0x1p53}, {false, 1<<53 + 3, 0, 0x1p53 + 4}, {false, math.MaxUint64, 0, 0x1p64}, {false, math.MaxUint64, -1138, least}, {false, math.MaxUint64, -1139, 0}, {false, 1 << 63, -1138, 0}, {false, 1<<63 + 1, -1138, least}, {false, math.MaxUint64, -1140, 0},
		{false, 1<<53 - 1, -1075, leastNormal}, {false, 1<<53 - 3, -1075, leastNormal - 2*least},
		{false, 1, 1023, 0x1p1023}, {false, 1, 1024, infinity}, {true, 1, 1024, -infinity}, {false, 1<<54 - 1, 970, infinity}, {false, 1<<54 - 2, 970, greatest}, {false, 1<<53 - 1, 971, greatest}, {false, 1<<64 - 1<<10, 960, infinity}, {false, 1<<64 - 1<<10 - 1, 960, greatest}, {true, math.MaxUint64, 960, -infinity},
		{false, 1 << 63, math.MinInt, 0}, {true, math.MaxUint64, math.MinInt, minusNought}, {false, 1, math.MinInt + 64, 0}, {false, 1, math.MaxInt, infinity}, {true, math.MaxUint64, math.MaxInt, -infinity}, {false, math.MaxUint64, math.MaxInt - 63, infinity},
		{false, 0, 0, 0}, {true, 0, 0, minusNought}, {true, 0, math.MaxInt, minusNought}, {false, 0, math.MaxInt, 0}, {true, 0, math.MinInt, minusNought},
	} {
		if x := part.Join(c.neg, c.m, c.e); !alike(x, c.want) {
			t.Errorf("P1.3: Join(%v, %d, %d) = %x, want %x", c.neg, c.m, c.e, x, c.want)
		}
	}
}

// nearest is the float64 nearest to m * 2^e by another road.
func nearest(neg bool, m uint64, e int) float64 {
	f := new(big.Float).SetUint64(m)
	f.SetMantExp(f, e)
	if neg {
		f.Neg(f)
	}
	x, _ := f.Float64()
	return x
}

func TestJoinAtEveryPower(t *testing.T) {
	mix := trial.Mixer(1)
	for e := -1300; e <= 1100; e++ {
		list := []uint64{1, 2, 3, 5, 1<<52 - 1, 1 << 52, 1<<52 + 1, 1<<53 - 1, 1 << 53, 1<<53 + 1, 1<<53 + 3, 1<<54 - 1, 1<<54 + 2, 1<<54 + 6, 1<<63 - 1, 1 << 63, 1<<63 + 1, 1<<63 + 1<<10, 1<<63 + 3<<10, 1<<64 - 1<<10, 1<<64 - 1<<10 - 1, math.MaxUint64}
		for range 20 {
			r := mix.Bits()
			list = append(list, r>>(mix.Bits()%64), r|1<<63, r>>11<<11|1<<10)
		}
		for _, m := range list {
			for _, neg := range []bool{false, true} {
				if x, want := part.Join(neg, m, e), nearest(neg, m, e); !alike(x, want) {
					t.Fatalf("P1.3: Join(%v, %d, %d) = %x, want %x", neg, m, e, x, want)
				}
			}
		}
	}
}

func TestJoinFarOutside(t *testing.T) {
	list := []int{math.MaxInt, math.MaxInt - 1}
	for e := 1024; e < 10000; e += 3 {
		list = append(list, e)
	}
	for k := 13; k < 63; k++ {
		list = append(list, 1<<k-1, 1<<k, 1<<k+1, math.MaxInt-1<<k)
	}
	for _, e := range list {
		for _, m := range []uint64{1, 1 << 52, 1<<53 + 1, math.MaxUint64} {
			if x := part.Join(false, m, e); !alike(x, infinity) {
				t.Errorf("P1.3: Join(false, %d, %d) = %x, want infinity", m, e, x)
			}
			if x := part.Join(true, m, ^e); e >= 1200 && !alike(x, minusNought) {
				t.Errorf("P1.3: Join(true, %d, %d) = %x, want -0", m, ^e, x)
			}
		}
	}
}

func TestJoinOfSplit(t *testing.T) {
	list := rising()
	mix := trial.Mixer(2)
	for range 20000 {
		list = append(list, math.Float64frombits(mix.Bits()))
	}
	for _, x := range list {
		if neg, m, e, fault := part.Split(x); fault == api.OK && !alike(part.Join(neg, m, e), x) {
			t.Errorf("P1.3: Join(Split(%x)) = %x", x, part.Join(neg, m, e))
		}
	}
}

func TestNextPrev(t *testing.T) {
	for _, c := range []struct{ x, next float64 }{
		{-infinity, -greatest}, {-greatest, -0x1.ffffffffffffep1023}, {-1, -1 + 0x1p-53}, {-leastNormal, least - leastNormal}, {-2 * least, -least}, {-least, minusNought}, {minusNought, 0}, {0, least}, {least, 2 * least}, {leastNormal - least, leastNormal}, {1 - 0x1p-53, 1}, {1, 1 + 0x1p-52}, {0x1.ffffffffffffep1023, greatest}, {greatest, infinity},
	} {
		if x := part.Next(c.x); !alike(x, c.next) {
			t.Errorf("P1.4: Next(%x) = %x, want %x", c.x, x, c.next)
		}
		if x := part.Prev(c.next); !alike(x, c.x) {
			t.Errorf("P1.4: Prev(%x) = %x, want %x", c.next, x, c.x)
		}
	}
	if x := part.Next(infinity); !alike(x, infinity) {
		t.Errorf("P1.4: Next(infinity) = %x", x)
	}
	if x := part.Prev(-infinity); !alike(x, -infinity) {
		t.Errorf("P1.4: Prev(-infinity) = %x", x)
	}
	for _, x := range nans() {
		if !math.IsNaN(part.Next(x)) || !math.IsNaN(part.Prev(x)) {
			t.Errorf("P1.4: Next, Prev of the NaN %x: %x, %x", math.Float64bits(x), part.Next(x), part.Prev(x))
		}
	}
}

func TestNextIsBetweenNone(t *testing.T) {
	mix := trial.Mixer(3)
	for range 20000 {
		x := math.Float64frombits(mix.Bits())
		if x == 0 || math.IsNaN(x) || math.IsInf(x, 0) || math.Abs(x) == least {
			continue
		}
		if up, want := part.Next(x), math.Nextafter(x, infinity); !alike(up, want) {
			t.Errorf("P1.4: Next(%x) = %x, want %x", x, up, want)
		}
		if down, want := part.Prev(x), math.Nextafter(x, -infinity); !alike(down, want) {
			t.Errorf("P1.4: Prev(%x) = %x, want %x", x, down, want)
		}
	}
}

func TestUlps(t *testing.T) {
	const span = 0x7ff0000000000000
	for _, c := range []struct {
		x, y float64
		n    uint64
	}{
		{1, 1 + 0x1p-52, 1}, {minusNought, 0, 1}, {-least, least, 3}, {2, 2, 0}, {minusNought, minusNought, 0}, {-infinity, infinity, 2*span + 1}, {0, infinity, span}, {minusNought, -infinity, span}, {infinity, infinity, 0}, {greatest, infinity, 1}, {1, 2, 1 << 52}, {-1, -2, 1 << 52}, {0, leastNormal, 1 << 52},
	} {
		for _, p := range [][2]float64{{c.x, c.y}, {c.y, c.x}} {
			if n, fault := part.Ulps(p[0], p[1]); n != c.n || fault != api.OK {
				t.Errorf("P1.5: Ulps(%x, %x) = %d, %d, want %d", p[0], p[1], n, fault, c.n)
			}
		}
	}
	for _, x := range nans() {
		for _, y := range []float64{1, 0, -infinity, infinity, nan} {
			n, fault := part.Ulps(x, y)
			m, back := part.Ulps(y, x)
			if n != 0 || fault != api.ErrNaN || m != 0 || back != api.ErrNaN {
				t.Errorf("P1.5: Ulps of %x and %x: %d, %d and %d, %d", math.Float64bits(x), y, n, fault, m, back)
			}
		}
	}
}

func TestUlpsCountsNexts(t *testing.T) {
	for _, from := range []float64{-infinity, -5 * least, minusNought, 0, 1 - 3*0x1p-53, 0x1.ffffffffffff0p1023} {
		x := from
		for n := range uint64(12) {
			if got, fault := part.Ulps(from, x); got != n || fault != api.OK {
				t.Errorf("P1.5: Ulps(%x, %x) = %d, %d, want %d", from, x, got, fault, n)
			}
			x = part.Next(x)
		}
	}
}

func TestSameAndOrder(t *testing.T) {
	list := rising()
	for i, x := range list {
		for j, y := range list {
			want := 0
			if i < j {
				want = -1
			} else if i > j {
				want = 1
			}
			if got := part.Order(x, y); got != want {
				t.Errorf("P1.6: Order(%x, %x) = %d, want %d", x, y, got, want)
			}
			if got := part.Same(x, y); got != (i == j) {
				t.Errorf("P1.6: Same(%x, %x) = %v", x, y, got)
			}
		}
	}
	for _, x := range nans() {
		for _, y := range list {
			if part.Order(x, y) != 1 || part.Order(y, x) != -1 || part.Same(x, y) || part.Same(y, x) {
				t.Errorf("P1.6: the NaN %x and %x: Order %d, Same %v", math.Float64bits(x), y, part.Order(x, y), part.Same(x, y))
			}
		}
		for _, y := range nans() {
			if part.Order(x, y) != 0 || !part.Same(x, y) {
				t.Errorf("P1.6: the NaNs %x and %x: Order %d, Same %v", math.Float64bits(x), math.Float64bits(y), part.Order(x, y), part.Same(x, y))
			}
		}
	}
}

func TestFlush(t *testing.T) {
	for _, c := range []struct{ x, want float64 }{
		{-least, minusNought}, {least, 0}, {leastNormal - least, 0}, {least - leastNormal, minusNought}, {-0x1p-1040, minusNought},
	} {
		if x := part.Flush(c.x); !alike(x, c.want) {
			t.Errorf("P1.7: Flush(%x) = %x, want %x", c.x, x, c.want)
		}
	}
	for _, x := range append(rising(), nans()...) {
		if subnormal := x != 0 && math.Abs(x) < leastNormal; !subnormal && !alike(part.Flush(x), x) {
			t.Errorf("P1.7: Flush(%x) = %x", x, part.Flush(x))
		}
	}
}
