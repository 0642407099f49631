package circle_test

import (
	"math"
	"math/big"
	"testing"

	"quaver/api"
	"quaver/circle"
	"quaver/gauss"
	"quaver/trial"
)

var (
	minus    = math.Copysign(0, -1)
	infinity = math.Inf(1)
	nan      = math.NaN()
)

// at is what Point must answer, by the words of P7.1.
func at(t api.Rat) trial.Complex {
	x := trial.Value(t)
	square := new(big.Rat).Mul(x, x)
	one := big.NewRat(1, 1)
	below := new(big.Rat).Add(one, square)
	re, im := new(big.Rat).Sub(one, square), new(big.Rat).Add(x, x)
	return trial.Complex{Re: re.Quo(re, below), Im: im.Quo(im, below)}
}

func TestPointExamples(t *testing.T) {
	for _, c := range []struct {
		t    api.Rat
		want api.Gauss
		near complex128
	}{
		{trial.Frac(0, 1), trial.Whole(1, 0), 1},
		{trial.Frac(1, 1), trial.Whole(0, 1), complex(0, 1)},
		{trial.Frac(-1, 1), trial.Whole(0, -1), complex(0, -1)},
		{trial.Frac(1, 2), api.Gauss{Re: trial.Frac(3, 5), Im: trial.Frac(4, 5)}, complex(0.6, 0.8)},
		{trial.Frac(-1, 3), api.Gauss{Re: trial.Frac(4, 5), Im: trial.Frac(-3, 5)}, complex(0.8, -0.6)},
		{trial.Frac(3, 1), api.Gauss{Re: trial.Frac(-4, 5), Im: trial.Frac(3, 5)}, complex(-0.8, 0.6)},
		{trial.Frac(-2, 1), api.Gauss{Re: trial.Frac(-3, 5), Im: trial.Frac(-4, 5)}, complex(-0.6, -0.8)},
	} {
		if p, e := circle.Point(c.t); e != api.OK || !trial.AlikeGauss(p, c.want) {
			t.Errorf("P7.1: Point(%v) = %v, %d, want %v", c.t, p, e, c.want)
		}
		z, e := circle.Near(c.t)
		if e != api.OK {
			t.Errorf("P7.1: Near(%v): %d", c.t, e)
		}
		trial.Is(t, z, c.near, "P7.1: Near(%v)", c.t)
	}
}

func TestPointAndNear(t *testing.T) {
	list := []api.Rat{ // parts of the point that are rounded to noughts, to 1, to a subnormal number, up and down
		trial.Sum(trial.Up(-2000)), trial.Sum(trial.Down(-2000)), trial.Sum(trial.Up(2000)), trial.Sum(trial.Down(2000)), trial.Sum(trial.Up(-1075)), trial.Sum(trial.Down(-1076)), trial.Sum(trial.Up(-1077)), trial.Sum(trial.Down(1075)), trial.Sum(trial.Up(-27)), trial.Sum(trial.Up(-26), trial.Up(-90)), trial.Sum(trial.Up(1070)),
		trial.Sum(trial.Up(0), trial.Up(-1080)), trial.Sum(trial.Up(0), trial.Down(-1080)), trial.Sum(trial.Down(0), trial.Up(-1074)),
	}
	mix := trial.Mixer(1)
	for range 500 {
		list = append(list, mix.Rat(3), trial.Frac(int64(mix.Below(200)-100), 101))
	}
	for _, r := range list {
		want := at(r)
		p, e := circle.Point(r)
		if e != api.OK || !trial.AlikeGauss(p, want.Gauss()) {
			t.Fatalf("P7.1: Point(%v) = %v, %d", r, p, e)
		}
		if norm, e := gauss.Norm(p); e != api.OK || !trial.Alike(norm, trial.Frac(1, 1)) {
			t.Errorf("P7.1: the norm of Point(%v) is %v, %d", r, norm, e)
		}
		z, e := circle.Near(r)
		if e != api.OK {
			t.Errorf("P7.1: Near(%v): %d", r, e)
		}
		trial.Is(t, z, want.Near(), "P7.1: Near(%v)", r)
	}
}

func TestPointAtTheLimit(t *testing.T) {
	long := trial.Ones(api.MaxLimbs, math.MaxUint64)
	half := append(make([]uint64, api.MaxLimbs-1), 1<<63)
	for _, c := range []struct {
		t    api.Rat
		near complex128
	}{
		{api.Rat{Num: long, Den: half}, complex(-0.6, 0.8)}, // nearly 2
		{api.Rat{Neg: true, Num: half, Den: long}, complex(0.6, -0.8)},
		{api.Rat{Num: []uint64{2}, Den: long}, complex(1, 0)},
		{api.Rat{Neg: true, Num: long, Den: []uint64{2}}, complex(-1, minus)},
	} {
		p, e := circle.Point(c.t)
		if e != api.OK || !trial.AlikeGauss(p, at(c.t).Gauss()) {
			t.Errorf("P7.1: Point at MaxLimbs: %d, %d limbs", e, len(p.Re.Den))
		}
		z, e := circle.Near(c.t)
		if e != api.OK {
			t.Errorf("P7.1: Near at MaxLimbs: %d", e)
		}
		trial.Is(t, z, c.near, "P7.1: Near at MaxLimbs")
	}
}

func TestWrongTangents(t *testing.T) {
	look := func(r api.Rat, want api.Errno) {
		t.Helper()
		if p, e := circle.Point(r); e != want || !trial.AlikeGauss(p, api.Gauss{}) {
			t.Errorf("P7.1: Point of a wrong number: %v, %d, want %d", p, e, want)
		}
		z, e := circle.Near(r)
		if e != want {
			t.Errorf("P7.1: Near of a wrong number: %d, want %d", e, want)
		}
		trial.Is(t, z, 0, "P7.1: Near of a wrong number")
	}
	for _, r := range trial.Wrong() {
		look(r, api.ErrForm)
	}
	for _, r := range trial.Long() {
		look(r, api.ErrLong)
	}
}

func TestPointMemory(t *testing.T) {
	point := func(args []trial.Numbers) []trial.Numbers {
		p, _ := circle.Point(args[0][0].Re)
		circle.Near(args[0][0].Re)
		return []trial.Numbers{{p}}
	}
	for _, r := range []api.Rat{trial.Frac(0, 1), trial.Frac(1, 1), trial.Frac(-1, 1), trial.Frac(1, 2), trial.Frac(-7, 3), {Num: []uint64{1, 2, 3}, Den: []uint64{7, 7}}} {
		given := trial.Numbers{{Re: r, Im: trial.Frac(0, 1)}}
		if fault := trial.Touched(point, given); fault != "" {
			t.Errorf("Memory: Point(%v): %s", r, fault)
		}
		if fault := trial.Beside(point, given); fault != "" {
			t.Errorf("P2: Point(%v): %s", r, fault)
		}
	}
}

// around is x and its neighbours.
func around(x float64) []float64 {
	return []float64{math.Nextafter(x, -infinity), x, math.Nextafter(x, infinity)}
}

func TestOn(t *testing.T) {
	for _, c := range []struct {
		z    complex128
		want int
	}{
		{complex(0.6, 0.8), 1}, {complex(-0.8, 0.6), 1}, {complex(0.28, 0.96), -1}, {1, 0}, {-1, 0}, {complex(1, minus), 0}, {complex(0, 1), 0}, {complex(minus, -1), 0}, {complex(0.5, 0.5), -1}, {0, -1}, {complex(minus, minus), -1},
		{complex(1, trial.Least), 1}, {complex(-trial.Least, 1), 1}, {1 - 0x1p-53, -1}, {complex(0, 0x1p-52-1), -1}, {1 + 0x1p-52, 1}, {complex(1-0x1p-53, trial.Least), -1}, {complex(1-0x1p-53, 0x1p-26), 1}, {complex(1-0x1p-53, 0x1.fffffffffffffp-27), -1},
		{complex(trial.Least, trial.Least), -1}, {complex(trial.Greatest, trial.Greatest), 1}, {complex(0, -trial.Greatest), 1}, {complex(trial.Greatest, trial.Least), 1}, {complex(0.6, math.Nextafter(0.8, 0)), -1},
	} {
		if where, e := circle.On(c.z); where != c.want || e != api.OK {
			t.Errorf("P7.4: On(%x) = %d, %d, want %d", c.z, where, e, c.want)
		}
	}
}

func TestOnNextToTheCircle(t *testing.T) {
	mix := trial.Mixer(2)
	one := big.NewRat(1, 1)
	seen := map[int]int{}
	for range 3000 {
		x := math.Copysign(float64(mix.Bits()>>11)*0x1p-53, float64(mix.Below(2))-0.5)
		if mix.Below(4) == 0 {
			x = math.Ldexp(x, -mix.Below(600))
		}
		for _, y := range around(math.Sqrt((1 - x) * (1 + x))) {
			for _, z := range []complex128{complex(x, y), complex(-y, x)} {
				want := trial.Exactly(z).Norm().Cmp(one)
				if where, e := circle.On(z); where != want || e != api.OK {
					t.Errorf("P7.4: On(%x) = %d, %d, want %d", z, where, e, want)
				}
				seen[want]++
			}
		}
	}
	if seen[-1] < 100 || seen[1] < 100 {
		t.Errorf("only %d numbers inside and %d outside", seen[-1], seen[1])
	}
}

func TestMirrorExamples(t *testing.T) {
	for _, c := range []struct {
		z, want complex128
		e       api.Errno
	}{
		{2, 0.5, api.OK}, {complex(0, 0.5), complex(0, 2), api.OK}, {complex(3, 4), complex(0.12, 0.16), api.OK}, {complex(-3, 4), complex(-0.12, 0.16), api.OK}, {complex(1, -1), complex(0.5, -0.5), api.OK}, {1, 1, api.OK}, {complex(0, -1), complex(0, -1), api.OK},
		{complex(2, minus), 0.5, api.OK}, {complex(minus, -4), complex(0, -0.25), api.OK}, // the true part is 0
		{0, 0, api.ErrZero}, {complex(minus, 0), 0, api.ErrZero}, {complex(0, minus), 0, api.ErrZero}, {complex(minus, minus), 0, api.ErrZero},
		{trial.Least, 0, api.ErrOver}, {complex(0, -trial.Least), 0, api.ErrOver}, {0x1p-1024, 0, api.ErrOver}, {0x1.0000000000004p-1024, 0x1.ffffffffffff8p1023, api.OK}, {complex(0, -0x1.0000000000004p-1024), complex(0, -0x1.ffffffffffff8p1023), api.OK},
		{complex(0x1p-1030, trial.Least), 0, api.ErrOver}, {complex(trial.Least, -0x1p-1030), 0, api.ErrOver},
		{0x1p1023, 0x1p-1023, api.OK}, {trial.Greatest, 0x1p-1024, api.OK}, {complex(trial.Greatest, trial.Greatest), complex(0x1p-1025, 0x1p-1025), api.OK},
		{complex(0x1p1000, 0x1p-1000), complex(0x1p-1000, 0), api.OK}, {complex(0x1p1000, -0x1p-1000), complex(0x1p-1000, minus), api.OK}, {complex(-trial.Least, trial.Greatest), complex(minus, 0x1p-1024), api.OK},
		{complex(0x1p537, 0x1p-1), complex(0x1p-537, 0), api.OK}, {complex(0x1p537, -0x1.8p-1), complex(0x1p-537, -trial.Least), api.OK}, // half of the least number, and more
		{complex(nan, 1), 0, api.ErrNaN}, {complex(0, nan), 0, api.ErrNaN}, {complex(infinity, 0), 0, api.ErrNaN}, {complex(1, -infinity), 0, api.ErrNaN}, {complex(nan, infinity), 0, api.ErrNaN}, {complex(trial.Least, nan), 0, api.ErrNaN},
	} {
		m, e := circle.Mirror(c.z)
		if e != c.e {
			t.Errorf("P7.5: Mirror(%x): %d, want %d", c.z, e, c.e)
		}
		trial.Is(t, m, c.want, "P7.5: Mirror(%x)", c.z)
	}
}

func TestOnAndMirror(t *testing.T) {
	mix := trial.Mixer(3)
	one := trial.Complex{Re: big.NewRat(1, 1), Im: new(big.Rat)}
	var list []complex128
	for _, x := range trial.Floats() {
		for _, y := range trial.Floats() {
			list = append(list, complex(x, y))
		}
	}
	list = append(list, mix.Numbers(1000, mix.Float)...)
	list = append(list, mix.Numbers(500, mix.Middle)...)
	list = append(list, mix.Numbers(500, func() float64 { return math.Ldexp(mix.Middle(), -1024) })...)
	for _, z := range list {
		where, e := circle.On(z)
		m, f := circle.Mirror(z)
		if !trial.Finite(real(z)) || !trial.Finite(imag(z)) {
			if where != 0 || e != api.ErrNaN || f != api.ErrNaN {
				t.Errorf("P7.4, P7.5: On(%x), Mirror: %d, %d and %d, want ErrNaN", z, where, e, f)
			}
			trial.Is(t, m, 0, "P7.5: Mirror(%x)", z)
			continue
		}
		if want := trial.Exactly(z).Norm().Cmp(one.Re); where != want || e != api.OK {
			t.Errorf("P7.4: On(%x) = %d, %d, want %d", z, where, e, want)
		}
		want, fault := complex128(0), api.ErrZero
		if z != 0 {
			want, fault = one.Quo(trial.Exactly(z).Conj()).Near(), api.OK
		}
		if math.IsInf(real(want), 0) || math.IsInf(imag(want), 0) {
			want, fault = 0, api.ErrOver
		}
		if f != fault {
			t.Errorf("P7.5: Mirror(%x): %d, want %d", z, f, fault)
		}
		trial.Is(t, m, want, "P7.5: Mirror(%x)", z)
	}
}
