package gauss_test

import (
	"math"
	"math/big"
	"slices"
	"testing"

	"quaver/api"
	"quaver/gauss"
	"quaver/trial"
)

var (
	minus    = math.Copysign(0, -1)
	infinity = math.Inf(1)
	nan      = math.NaN()
)

// of is a/c + b/d i, which are in lowest terms.
func of(a int64, c uint64, b int64, d uint64) api.Gauss {
	return api.Gauss{Re: trial.Frac(a, c), Im: trial.Frac(b, d)}
}

// binary: the calls of two numbers, and what they do.
type binary struct {
	name string
	call func(a, b api.Gauss) (api.Gauss, api.Errno)
	want func(a, b trial.Complex) trial.Complex
}

func binaries() []binary {
	return []binary{
		{"Add", gauss.Add, trial.Complex.Add},
		{"Sub", gauss.Sub, trial.Complex.Sub},
		{"Mul", gauss.Mul, trial.Complex.Mul},
		{"Quo", gauss.Quo, trial.Complex.Quo},
	}
}

// unary: the calls of one number, and what they do.
type unary struct {
	name string
	call func(a api.Gauss) (api.Gauss, api.Errno)
	want func(a trial.Complex) trial.Complex
}

func unaries() []unary {
	return []unary{
		{"Neg", gauss.Neg, func(a trial.Complex) trial.Complex { return trial.Complex{Re: new(big.Rat), Im: new(big.Rat)}.Sub(a) }},
		{"Conj", gauss.Conj, trial.Complex.Conj},
	}
}

func TestForm(t *testing.T) {
	long := api.Rat{Num: trial.Ones(api.MaxLimbs+9, 3), Den: append(make([]uint64, api.MaxLimbs+1), 1)}
	for _, g := range []api.Gauss{of(0, 1, 0, 1), of(1, 2, -3, 4), of(-5, 1, 0, 1), {Re: trial.Frac(1, 3), Im: long}, {Re: long, Im: trial.Frac(1, 3)}, {Re: api.Rat{Num: []uint64{}, Den: []uint64{1}}, Im: trial.Frac(-1, 7)}} {
		if !gauss.Form(g) {
			t.Errorf("P5.1: Form of %d and %d limbs is false", len(g.Re.Num), len(g.Im.Num))
		}
	}
	tooLong := api.Rat{Num: append(trial.Ones(api.MaxLimbs+1, 3), 0), Den: []uint64{1}}
	for _, g := range append(trial.Either(trial.Wrong()), trial.Either([]api.Rat{tooLong})...) {
		if gauss.Form(g) {
			t.Errorf("P5.1: Form(%v) is true", g)
		}
	}
	if gauss.Form(api.Gauss{}) {
		t.Error("P5.1: Form of two parts without Den is true")
	}
}

func TestFrom(t *testing.T) {
	edges := []float64{0, minus, 0.5, -0.75, 1, -3, 0.1, 0x1p-1074, -0x1p-1074, 0x1p-1022, 0x1.fffffffffffffp-1023, 0x1p64, math.MaxFloat64, -math.MaxFloat64}
	for _, x := range edges {
		for _, y := range edges {
			want := trial.Complex{Re: new(big.Rat).SetFloat64(x), Im: new(big.Rat).SetFloat64(y)}.Gauss()
			g, e := gauss.From(complex(x, y))
			if e != api.OK || !trial.AlikeGauss(g, want) {
				t.Errorf("P5.2: From(%x, %x) = %v, %d, want %v", x, y, g, e, want)
			}
			// Back again: but for a nought's sign it is the same.
			if a, e := gauss.To(g); e != api.OK || a != complex(x, y) || x == 0 && math.Signbit(real(a)) || y == 0 && math.Signbit(imag(a)) {
				t.Errorf("P5.2: To(From(%x, %x)) = %x, %d", x, y, a, e)
			}
		}
		for _, bad := range []float64{nan, infinity, -infinity, math.Float64frombits(0x7ff0000000000001)} {
			for _, a := range []complex128{complex(x, bad), complex(bad, x), complex(bad, bad)} {
				if g, e := gauss.From(a); e != api.ErrNaN || !trial.AlikeGauss(g, api.Gauss{}) {
					t.Errorf("P5.2: From(%v) = %v, %d", a, g, e)
				}
			}
		}
	}
}

// nearest is the float64 nearest to r, by another road.
func nearest(r api.Rat) (float64, api.Errno) {
	x, _ := trial.Value(r).Float64()
	if math.IsInf(x, 0) {
		return 0, api.ErrOver
	}
	if x == 0 {
		x = math.Copysign(0, float64(trial.Value(r).Sign()))
	}
	return x, api.OK
}

func TestTo(t *testing.T) {
	parts := []api.Rat{
		trial.Frac(0, 1), trial.Frac(1, 3), trial.Frac(-2, 3), trial.Frac(2, 1), trial.Frac(-1, 1),
		trial.Sum(trial.Up(-1075)), trial.Sum(trial.Down(-1075)), trial.Sum(trial.Down(-3000)), trial.Sum(trial.Up(-1075), trial.Up(-1076)), trial.Sum(trial.Down(-1075), trial.Down(-4000)),
		trial.Sum(trial.Up(0), trial.Up(-53)), trial.Sum(trial.Up(0), trial.Up(-52), trial.Up(-53)), trial.Sum(trial.Down(0), trial.Down(-53), trial.Down(-2000)),
		trial.Sum(trial.Up(1024), trial.Down(971)), trial.Sum(trial.Up(1024), trial.Down(970)), trial.Sum(trial.Up(1024), trial.Down(970), trial.Down(0)), trial.Sum(trial.Down(1024)), trial.Sum(trial.Up(1024)),
	}
	for _, x := range parts {
		for _, y := range parts {
			re, e := nearest(x)
			im, f := nearest(y)
			want, fault := complex(re, im), max(e, f)
			if fault != api.OK {
				want = 0
			}
			a, e := gauss.To(api.Gauss{Re: x, Im: y})
			if e != fault || math.Float64bits(real(a)) != math.Float64bits(real(want)) || math.Float64bits(imag(a)) != math.Float64bits(imag(want)) {
				t.Errorf("P5.2: To(%v, %v) = %x, %d, want %x, %d", x, y, a, e, want, fault)
			}
		}
	}
	if a, e := gauss.To(gauss.Int(2, -1)); a != complex(2, -1) || e != api.OK {
		t.Errorf("P5.2: To(Int(2, -1)) = %v, %d", a, e)
	}
}

func TestInt(t *testing.T) {
	list := []int64{0, 1, -1, 7, math.MaxInt64, math.MinInt64, math.MinInt64 + 1}
	for _, a := range list {
		for _, b := range list {
			want := trial.Complex{Re: new(big.Rat).SetInt64(a), Im: new(big.Rat).SetInt64(b)}.Gauss()
			if g := gauss.Int(a, b); !trial.AlikeGauss(g, want) || !gauss.Form(g) {
				t.Errorf("P5.2: Int(%d, %d) = %v", a, b, g)
			}
		}
	}
}

func TestExamples(t *testing.T) {
	for _, c := range []struct {
		name string
		call func(a, b api.Gauss) (api.Gauss, api.Errno)
		a, b api.Gauss
		want api.Gauss
		e    api.Errno
	}{
		{"(1 + 2i) * (3 + 4i)", gauss.Mul, gauss.Int(1, 2), gauss.Int(3, 4), of(-5, 1, 10, 1), api.OK},
		{"(1 + 2i) / (3 - i)", gauss.Quo, gauss.Int(1, 2), gauss.Int(3, -1), of(1, 10, 7, 10), api.OK},
		{"1 / 0", gauss.Quo, gauss.Int(1, 0), gauss.Int(0, 0), api.Gauss{}, api.ErrZero},
		{"0 / 0", gauss.Quo, gauss.Int(0, 0), gauss.Int(0, 0), api.Gauss{}, api.ErrZero},
		{"1 / i", gauss.Quo, gauss.Int(1, 0), gauss.Int(0, 1), of(0, 1, -1, 1), api.OK},
		{"i * i", gauss.Mul, gauss.Int(0, 1), gauss.Int(0, 1), of(-1, 1, 0, 1), api.OK},
		{"0 * -i", gauss.Mul, gauss.Int(0, 0), gauss.Int(0, -1), of(0, 1, 0, 1), api.OK},
		{"1/2 + 1/2", gauss.Add, of(1, 2, -1, 3), of(1, 2, 1, 3), of(1, 1, 0, 1), api.OK},
		{"i/6 - i/6", gauss.Sub, of(1, 6, 1, 6), of(-1, 6, 1, 6), of(1, 3, 0, 1), api.OK},
	} {
		if g, e := c.call(c.a, c.b); e != c.e || !trial.AlikeGauss(g, c.want) {
			t.Errorf("P5.3: %s = %v, %d, want %v, %d", c.name, g, e, c.want, c.e)
		}
	}
	if r, e := gauss.Norm(gauss.Int(3, 4)); e != api.OK || !trial.Alike(r, trial.Frac(25, 1)) {
		t.Errorf("P5.3: Norm(3 + 4i) = %v, %d", r, e)
	}
	for _, op := range unaries() {
		if g, e := op.call(gauss.Int(0, 0)); e != api.OK || !trial.AlikeGauss(g, of(0, 1, 0, 1)) {
			t.Errorf("P5.3: %s(0) = %v, %d", op.name, g, e)
		}
	}
}

func TestSteps(t *testing.T) {
	mix := trial.Mixer(1)
	for range 2000 {
		a, b := mix.Gauss(3), mix.Gauss(3)
		if mix.Below(4) == 0 {
			b = trial.ValueGauss(a).Conj().Gauss()
		}
		x, y := trial.ValueGauss(a), trial.ValueGauss(b)
		for _, op := range binaries() {
			if op.name == "Quo" && trial.Nought(b) {
				continue
			}
			if g, e := op.call(a, b); e != api.OK || !trial.AlikeGauss(g, op.want(x, y).Gauss()) || !gauss.Form(g) {
				t.Fatalf("P5.3: %s(%v, %v) = %v, %d", op.name, a, b, g, e)
			}
		}
		for _, op := range unaries() {
			if g, e := op.call(a); e != api.OK || !trial.AlikeGauss(g, op.want(x).Gauss()) || !gauss.Form(g) {
				t.Fatalf("P5.3: %s(%v) = %v, %d", op.name, a, g, e)
			}
		}
		if r, e := gauss.Norm(a); e != api.OK || !trial.Alike(r, trial.Told(x.Norm())) {
			t.Fatalf("P5.3: Norm(%v) = %v, %d", a, r, e)
		}
	}
}

func TestAtTheLimit(t *testing.T) {
	a := api.Gauss{Re: api.Rat{Num: trial.Ones(api.MaxLimbs, math.MaxUint64), Den: []uint64{1}}, Im: api.Rat{Neg: true, Num: []uint64{1}, Den: append(make([]uint64, api.MaxLimbs-1), 1<<63)}}
	b := api.Gauss{Re: api.Rat{Num: []uint64{5}, Den: append(make([]uint64, api.MaxLimbs-1), 1)}, Im: api.Rat{Num: trial.Ones(api.MaxLimbs, 3), Den: []uint64{2}}}
	x, y := trial.ValueGauss(a), trial.ValueGauss(b)
	for _, op := range binaries() {
		if op.name == "Quo" { // below, with fewer limbs
			continue
		}
		if g, e := op.call(a, b); e != api.OK || !trial.AlikeGauss(g, op.want(x, y).Gauss()) {
			t.Errorf("P5.3: %s at MaxLimbs: %d", op.name, e)
		}
	}
	g, e := gauss.Quo(api.Gauss{Re: a.Re, Im: trial.Frac(0, 1)}, gauss.Int(0, -1))
	if e != api.OK || len(g.Re.Num) != 0 || !trial.Alike(g.Im, a.Re) {
		t.Errorf("P5.3: Quo at MaxLimbs: %d", e)
	}
	long, e := gauss.Mul(a, a)
	if e != api.OK || len(long.Re.Num) <= api.MaxLimbs || !gauss.Form(long) {
		t.Errorf("P5.3: an answer beyond MaxLimbs: %d limbs, %d", len(long.Re.Num), e)
	}
	if _, e := gauss.Neg(long); e != api.ErrLong {
		t.Errorf("P5: an answer beyond MaxLimbs that is handed in: %d", e)
	}
	for _, call := range []func(api.Gauss) (api.Gauss, api.Errno){gauss.Neg, gauss.Conj} {
		if g, e := call(a); e != api.OK || len(g.Re.Num) != api.MaxLimbs || !g.Im.Neg && len(g.Im.Den) != api.MaxLimbs {
			t.Errorf("P5.3: Neg, Conj at MaxLimbs: %d", e)
		}
	}
}

func TestEqual(t *testing.T) {
	list := []api.Gauss{of(0, 1, 0, 1), of(1, 2, 0, 1), of(-1, 2, 0, 1), of(0, 1, 1, 2), of(0, 1, -1, 2), of(1, 2, 1, 2), of(1, 2, 1, 3), of(1, 3, 1, 2), of(1, 1, 1, 2), of(3, 2, 1, 2), {Re: api.Rat{Num: []uint64{1, 1}, Den: []uint64{2}}, Im: trial.Frac(1, 2)}}
	for i, a := range list {
		for j, b := range list {
			copied := api.Gauss(trial.Numbers{b}.Clone()[0])
			if same, e := gauss.Equal(a, copied); same != (i == j) || e != api.OK {
				t.Errorf("P5.4: Equal(%v, %v) = %v, %d", a, b, same, e)
			}
		}
	}
	if same, e := gauss.Equal(api.Gauss{Re: api.Rat{Num: nil, Den: []uint64{1}}, Im: trial.Frac(1, 1)}, api.Gauss{Re: api.Rat{Num: []uint64{}, Den: []uint64{1}}, Im: trial.Frac(1, 1)}); !same || e != api.OK {
		t.Errorf("P5.4: Equal of nil and empty: %v, %d", same, e)
	}
}

// faults: what each call answers as an error of a at its first place, of b at its second; -1, where another result is not its zero value.
func faults(a, b api.Gauss) map[string]api.Errno {
	got := map[string]api.Errno{}
	for _, op := range binaries() {
		g, e := op.call(a, b)
		got[op.name] = told(e, trial.AlikeGauss(g, api.Gauss{}))
	}
	same, e := gauss.Equal(a, b)
	got["Equal"] = told(e, !same)
	return got
}

// faultsOfOne: the same of the calls of one number.
func faultsOfOne(a api.Gauss) map[string]api.Errno {
	got := map[string]api.Errno{}
	for _, op := range unaries() {
		g, e := op.call(a)
		got[op.name] = told(e, trial.AlikeGauss(g, api.Gauss{}))
	}
	r, e := gauss.Norm(a)
	got["Norm"] = told(e, trial.Alike(r, api.Rat{}))
	x, e := gauss.To(a)
	got["To"] = told(e, math.Float64bits(real(x)) == 0 && math.Float64bits(imag(x)) == 0)
	return got
}

func told(e api.Errno, zero bool) api.Errno {
	if !zero {
		return -1
	}
	return e
}

func TestWrongNumbers(t *testing.T) {
	good, nought := of(2, 3, -1, 5), of(0, 1, 0, 1)
	beyond := api.Gauss{Re: trial.Sum(trial.Up(2000)), Im: trial.Wrong()[12]}
	for _, bad := range append(trial.Either(trial.Wrong()), beyond, api.Gauss{}) {
		for _, pair := range [][2]api.Gauss{{bad, good}, {good, bad}, {bad, bad}, {bad, nought}} {
			for name, e := range faults(pair[0], pair[1]) {
				if e != api.ErrForm {
					t.Errorf("P5: %s(%v, %v): %d, want ErrForm", name, pair[0], pair[1], e)
				}
			}
		}
		for name, e := range faultsOfOne(bad) {
			if e != api.ErrForm {
				t.Errorf("P5: %s(%v): %d, want ErrForm", name, bad, e)
			}
		}
	}
}

func TestLongNumbers(t *testing.T) {
	others := []api.Gauss{of(2, 3, -1, 5), of(0, 1, 0, 1), {}, {Re: trial.Frac(1, 1), Im: trial.Wrong()[12]}}
	long := trial.Either(trial.Long())
	for _, r := range trial.Long() {
		// Not in form, or beyond the greatest float, beside what is too long.
		long = append(long, api.Gauss{Re: r, Im: trial.Wrong()[12]}, api.Gauss{Re: trial.Wrong()[12], Im: r}, api.Gauss{Re: trial.Sum(trial.Up(1024)), Im: r})
	}
	for i, bad := range long {
		for _, other := range append(slices.Clone(others), bad) {
			for _, pair := range [][2]api.Gauss{{bad, other}, {other, bad}} {
				for name, e := range faults(pair[0], pair[1]) {
					if e != api.ErrLong {
						t.Errorf("P5: %s of the long number %d: %d, want ErrLong", name, i, e)
					}
				}
			}
		}
		for name, e := range faultsOfOne(bad) {
			if e != api.ErrLong {
				t.Errorf("P5: %s of the long number %d: %d, want ErrLong", name, i, e)
			}
		}
	}
}
