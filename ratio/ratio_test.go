package ratio_test

import (
	"math"
	"math/big"
	"slices"
	"testing"

	"quaver/api"
	"quaver/ratio"
	"quaver/trial"
)

// binary: the calls of two numbers, and what they do.
type binary struct {
	name string
	call func(a, b api.Rat) (api.Rat, api.Errno)
	want func(z, a, b *big.Rat) *big.Rat
}

func binaries() []binary {
	return []binary{
		{"Add", ratio.Add, (*big.Rat).Add},
		{"Sub", ratio.Sub, (*big.Rat).Sub},
		{"Mul", ratio.Mul, (*big.Rat).Mul},
		{"Quo", ratio.Quo, (*big.Rat).Quo},
	}
}

func TestForm(t *testing.T) {
	for _, r := range []api.Rat{
		{Den: []uint64{1}}, {Num: []uint64{}, Den: []uint64{1}}, trial.Frac(1, 1), trial.Frac(-1, 1), trial.Frac(3, 2), trial.Frac(-2, 3),
		{Num: []uint64{0, 1}, Den: []uint64{3}}, {Num: []uint64{1}, Den: []uint64{0, 1}}, {Num: []uint64{0, 0, 1}, Den: []uint64{1, 1}},
		{Num: trial.Ones(api.MaxLimbs, math.MaxUint64), Den: []uint64{1}}, {Num: trial.Ones(api.MaxLimbs+1, 3), Den: []uint64{0, 2}}, {Num: append(make([]uint64, 9000), 1), Den: trial.Ones(9000, 1)},
	} {
		if !ratio.Form(r) {
			t.Errorf("P2.1: Form of %d over %d limbs is false", len(r.Num), len(r.Den))
		}
	}
	for _, r := range trial.Wrong() {
		if ratio.Form(r) {
			t.Errorf("P2.1: Form(%v) is true", r)
		}
	}
	for _, r := range []api.Rat{
		{Num: trial.Ones(api.MaxLimbs+1, 3), Den: []uint64{0, 3}}, {Num: append(trial.Ones(5000, 1), 0), Den: []uint64{1}}, {Neg: true, Num: []uint64{1}, Den: make([]uint64, 5000)},
	} {
		if ratio.Form(r) {
			t.Errorf("P2.1: Form of %d over %d limbs is true", len(r.Num), len(r.Den))
		}
	}
}

func TestFormIsLowestTerms(t *testing.T) {
	mix := trial.Mixer(1)
	for range 2000 {
		r := mix.Rat(4)
		if !ratio.Form(r) {
			t.Fatalf("P2.1: Form(%v) is false", r)
		}
		if len(r.Num) == 0 {
			continue
		}
		k := new(big.Int).SetUint64(2 + mix.Bits()>>mix.Below(63)>>1)
		num, den := new(big.Int).Mul(k, trial.Natural(r.Num)), new(big.Int).Mul(k, trial.Natural(r.Den))
		if raised := (api.Rat{Neg: r.Neg, Num: trial.Split(num), Den: trial.Split(den)}); ratio.Form(raised) {
			t.Fatalf("P2.1: Form(%v) is true", raised)
		}
	}
}

func TestMake(t *testing.T) {
	nought := trial.Frac(0, 1)
	for _, c := range []struct {
		neg      bool
		num, den []uint64
		want     api.Rat
		e        api.Errno
	}{
		{true, []uint64{6}, []uint64{4}, trial.Frac(-3, 2), api.OK},
		{false, []uint64{6}, []uint64{4}, trial.Frac(3, 2), api.OK},
		{true, []uint64{0}, []uint64{5}, nought, api.OK},
		{true, nil, []uint64{5, 0, 0}, nought, api.OK},
		{false, []uint64{0, 0}, []uint64{0, 9}, nought, api.OK},
		{false, []uint64{0, 1}, []uint64{2}, api.Rat{Num: []uint64{1 << 63}, Den: []uint64{1}}, api.OK},
		{true, []uint64{0, 1, 0}, []uint64{0, 3, 0, 0}, trial.Frac(-1, 3), api.OK},
		{false, []uint64{5, 5}, []uint64{1, 1}, trial.Frac(5, 1), api.OK},
		{false, []uint64{1}, []uint64{0, 0}, api.Rat{}, api.ErrZero},
		{true, []uint64{1}, nil, api.Rat{}, api.ErrZero},
		{true, nil, nil, api.Rat{}, api.ErrZero},
		{false, trial.Ones(api.MaxLimbs+1, 1), nil, api.Rat{}, api.ErrLong},
		{false, nil, make([]uint64, api.MaxLimbs+1), api.Rat{}, api.ErrLong},
		{true, make([]uint64, api.MaxLimbs+1), []uint64{1}, api.Rat{}, api.ErrLong},
		{false, []uint64{1}, append([]uint64{1}, make([]uint64, api.MaxLimbs)...), api.Rat{}, api.ErrLong},
		{false, make([]uint64, api.MaxLimbs), make([]uint64, api.MaxLimbs), api.Rat{}, api.ErrZero},
		{true, make([]uint64, api.MaxLimbs), trial.Ones(api.MaxLimbs, 1), nought, api.OK},
		{true, trial.Ones(api.MaxLimbs, 6), trial.Ones(api.MaxLimbs, 4), trial.Frac(-3, 2), api.OK},
	} {
		if r, e := ratio.Make(c.neg, c.num, c.den); e != c.e || !trial.Alike(r, c.want) {
			t.Errorf("P2.2: Make(%v, %d limbs, %d limbs) = %v, %d, want %v, %d", c.neg, len(c.num), len(c.den), r, e, c.want, c.e)
		}
	}
}

func TestMakeIsInForm(t *testing.T) {
	mix := trial.Mixer(2)
	for range 5000 {
		neg, num, den := mix.Below(2) == 0, mix.Limbs(5), mix.Limbs(5)
		r, e := ratio.Make(neg, num, den)
		if trial.Natural(den).Sign() == 0 {
			if e != api.ErrZero || !trial.Alike(r, api.Rat{}) {
				t.Fatalf("P2.2: Make(%v, %v, %v) = %v, %d", neg, num, den, r, e)
			}
			continue
		}
		want := trial.Told(trial.Value(api.Rat{Neg: neg, Num: num, Den: den}))
		if e != api.OK || !trial.Alike(r, want) || !ratio.Form(r) {
			t.Fatalf("P2.2: Make(%v, %v, %v) = %v, %d, want %v", neg, num, den, r, e, want)
		}
	}
}

func TestInt(t *testing.T) {
	for _, n := range []int64{0, 1, -1, 2, 1000, math.MaxInt64, math.MinInt64, math.MinInt64 + 1} {
		want := trial.Told(new(big.Rat).SetInt64(n))
		if r := ratio.Int(n); !trial.Alike(r, want) || !ratio.Form(r) {
			t.Errorf("P2.3: Int(%d) = %v, want %v", n, r, want)
		}
	}
}

func TestFrom(t *testing.T) {
	list := []float64{0, math.Copysign(0, -1), 0.5, -0.75, 1, 3, 0.1, -6, 0x1p-1074, -0x1p-1074, 0x1p-1022, 0x1.fffffffffffffp-1023, 0x1p53, 0x1p64, 0x1p1023, math.MaxFloat64, -math.MaxFloat64}
	mix := trial.Mixer(3)
	for range 5000 {
		if x := math.Float64frombits(mix.Bits()); !math.IsNaN(x) && !math.IsInf(x, 0) {
			list = append(list, x)
		}
	}
	for _, x := range list {
		want := trial.Told(new(big.Rat).SetFloat64(x))
		if r, e := ratio.From(x); e != api.OK || !trial.Alike(r, want) {
			t.Errorf("P2.3: From(%x) = %v, %d, want %v", x, r, e, want)
		}
	}
	if r, e := ratio.From(0x1p-1074); e != api.OK || !slices.Equal(r.Num, []uint64{1}) || len(r.Den) != 17 || r.Den[16] != 1<<50 {
		t.Errorf("P2.3: From(2^-1074) = %v, %d", r, e)
	}
	for _, x := range []float64{math.NaN(), math.Inf(1), math.Inf(-1), math.Float64frombits(0xfff0000000000001)} {
		if r, e := ratio.From(x); e != api.ErrNaN || !trial.Alike(r, api.Rat{}) {
			t.Errorf("P2.3: From(%g) = %v, %d", x, r, e)
		}
	}
}

func TestExamplesOfSums(t *testing.T) {
	for _, c := range []struct {
		name string
		call func(a, b api.Rat) (api.Rat, api.Errno)
		a, b api.Rat
		want api.Rat
		e    api.Errno
	}{
		{"1/6 + 1/3", ratio.Add, trial.Frac(1, 6), trial.Frac(1, 3), trial.Frac(1, 2), api.OK},
		{"1/2 - 1/2", ratio.Sub, trial.Frac(1, 2), trial.Frac(1, 2), trial.Frac(0, 1), api.OK},
		{"-1/6 + 1/6", ratio.Add, trial.Frac(-1, 6), trial.Frac(1, 6), trial.Frac(0, 1), api.OK},
		{"0 - 0", ratio.Sub, trial.Frac(0, 1), trial.Frac(0, 1), trial.Frac(0, 1), api.OK},
		{"1/6 - 1/2", ratio.Sub, trial.Frac(1, 6), trial.Frac(1, 2), trial.Frac(-1, 3), api.OK},
		{"-2/3 * 3/4", ratio.Mul, trial.Frac(-2, 3), trial.Frac(3, 4), trial.Frac(-1, 2), api.OK},
		{"-2/3 * 0", ratio.Mul, trial.Frac(-2, 3), trial.Frac(0, 1), trial.Frac(0, 1), api.OK},
		{"0 * -5/4", ratio.Mul, trial.Frac(0, 1), trial.Frac(-5, 4), trial.Frac(0, 1), api.OK},
		{"1/2 / -1/3", ratio.Quo, trial.Frac(1, 2), trial.Frac(-1, 3), trial.Frac(-3, 2), api.OK},
		{"-1/2 / -5/4", ratio.Quo, trial.Frac(-1, 2), trial.Frac(-5, 4), trial.Frac(2, 5), api.OK},
		{"0 / -5/4", ratio.Quo, trial.Frac(0, 1), trial.Frac(-5, 4), trial.Frac(0, 1), api.OK},
		{"1/2 / 0", ratio.Quo, trial.Frac(1, 2), trial.Frac(0, 1), api.Rat{}, api.ErrZero},
		{"0 / 0", ratio.Quo, trial.Frac(0, 1), trial.Frac(0, 1), api.Rat{}, api.ErrZero},
		{"2/4 / 0", ratio.Quo, api.Rat{Num: []uint64{2}, Den: []uint64{4}}, trial.Frac(0, 1), api.Rat{}, api.ErrForm},
		{"1 / 0/2", ratio.Quo, trial.Frac(1, 1), api.Rat{Den: []uint64{2}}, api.Rat{}, api.ErrForm},
	} {
		if r, e := c.call(c.a, c.b); e != c.e || !trial.Alike(r, c.want) {
			t.Errorf("P2.5: %s = %v, %d, want %v, %d", c.name, r, e, c.want, c.e)
		}
	}
}

func TestSumsAreExact(t *testing.T) {
	mix := trial.Mixer(4)
	for range 3000 {
		a, b := mix.Rat(4), mix.Rat(4)
		switch mix.Below(4) {
		case 0:
			b.Den = slices.Clone(a.Den)
			b, _ = ratio.Make(b.Neg, b.Num, b.Den)
		case 1:
			b, _ = ratio.Neg(a)
		case 2: // over powers of two, as floats are
			a, _ = ratio.Make(a.Neg, a.Num, append(make([]uint64, mix.Below(3)), 1<<mix.Below(64)))
		}
		for _, op := range binaries() {
			r, e := op.call(a, b)
			if op.name == "Quo" && len(b.Num) == 0 {
				if e != api.ErrZero || !trial.Alike(r, api.Rat{}) {
					t.Fatalf("P2.5: Quo(%v, 0) = %v, %d", a, r, e)
				}
				continue
			}
			if want := trial.Told(op.want(new(big.Rat), trial.Value(a), trial.Value(b))); e != api.OK || !trial.Alike(r, want) || !ratio.Form(r) {
				t.Fatalf("P2.5: %s(%v, %v) = %v, %d, want %v", op.name, a, b, r, e, want)
			}
		}
	}
}

func TestNeg(t *testing.T) {
	for _, c := range []struct{ r, want api.Rat }{
		{trial.Frac(1, 2), trial.Frac(-1, 2)}, {trial.Frac(-7, 3), trial.Frac(7, 3)}, {trial.Frac(0, 1), trial.Frac(0, 1)}, {trial.Frac(5, 1), trial.Frac(-5, 1)},
	} {
		if r, e := ratio.Neg(c.r); e != api.OK || !trial.Alike(r, c.want) {
			t.Errorf("P2.5: Neg(%v) = %v, %d, want %v", c.r, r, e, c.want)
		}
	}
}

func TestCmp(t *testing.T) {
	rising := []api.Rat{trial.Sum(trial.Down(200)), trial.Frac(-3, 1), trial.Frac(-1, 2), trial.Frac(-1, 3), trial.Sum(trial.Down(-1080)), trial.Frac(0, 1), trial.Sum(trial.Up(-1081)), trial.Sum(trial.Up(-1080)), trial.Frac(1, 3), trial.Frac(1, 2), trial.Frac(2, 3), trial.Frac(1, 1), trial.Frac(7, 2), trial.Sum(trial.Up(200)), trial.Sum(trial.Up(200), trial.Up(-200))}
	for i, a := range rising {
		for j, b := range rising {
			want := 0
			if i < j {
				want = -1
			} else if i > j {
				want = 1
			}
			if c, e := ratio.Cmp(a, b); c != want || e != api.OK {
				t.Errorf("P2.6: Cmp(%v, %v) = %d, %d, want %d", a, b, c, e, want)
			}
		}
	}
}

func TestFloor(t *testing.T) {
	for _, c := range []struct{ r, want api.Rat }{
		{trial.Frac(-1, 2), trial.Frac(-1, 1)}, {trial.Frac(7, 2), trial.Frac(3, 1)}, {trial.Frac(-7, 2), trial.Frac(-4, 1)}, {trial.Frac(-3, 1), trial.Frac(-3, 1)}, {trial.Frac(3, 1), trial.Frac(3, 1)}, {trial.Frac(0, 1), trial.Frac(0, 1)}, {trial.Frac(1, 3), trial.Frac(0, 1)}, {trial.Frac(2, 3), trial.Frac(0, 1)}, {trial.Frac(-1, 1000), trial.Frac(-1, 1)},
		{trial.Sum(trial.Up(64), trial.Down(-3)), api.Rat{Num: []uint64{math.MaxUint64}, Den: []uint64{1}}}, {trial.Sum(trial.Down(64), trial.Down(-3)), api.Rat{Neg: true, Num: []uint64{1, 1}, Den: []uint64{1}}},
	} {
		if r, e := ratio.Floor(c.r); e != api.OK || !trial.Alike(r, c.want) {
			t.Errorf("P2.6: Floor(%v) = %v, %d, want %v", c.r, r, e, c.want)
		}
	}
	mix := trial.Mixer(5)
	for range 2000 {
		r := mix.Rat(3)
		low, e := ratio.Floor(r)
		next, _ := ratio.Add(low, ratio.Int(1))
		from, _ := ratio.Cmp(low, r)
		to, _ := ratio.Cmp(r, next)
		if e != api.OK || !slices.Equal(low.Den, []uint64{1}) || from > 0 || to >= 0 {
			t.Fatalf("P2.6: Floor(%v) = %v, %d", r, low, e)
		}
	}
}

func TestSameJustWhereAlike(t *testing.T) {
	var list []api.Rat
	for n := int64(-12); n <= 12; n++ {
		for d := uint64(1); d <= 12; d++ {
			m := max(n, -n)
			r, _ := ratio.Make(n < 0, []uint64{uint64(m), 0}, []uint64{d, 0, 0})
			list = append(list, r)
		}
	}
	for _, a := range list {
		for _, b := range list {
			c, e := ratio.Cmp(a, b)
			if same := trial.Value(a).Cmp(trial.Value(b)) == 0; e != api.OK || (c == 0) != same || trial.Alike(a, b) != same {
				t.Fatalf("P2.7: %v and %v: Cmp %d, %d, one number: %v", a, b, c, e, same)
			}
		}
	}
}

// fails: what each call that takes Rats answers as errors, a at its first place, b at its second.
func fails(a, b api.Rat) map[string]api.Errno {
	got := map[string]api.Errno{}
	for _, op := range binaries() {
		r, e := op.call(a, b)
		if e != api.OK && !trial.Alike(r, api.Rat{}) {
			e = -1
		}
		got[op.name] = e
	}
	c, e := ratio.Cmp(a, b)
	if e != api.OK && c != 0 {
		e = -1
	}
	got["Cmp"] = e
	return got
}

func TestWrongPairs(t *testing.T) {
	good := trial.Frac(2, 3)
	for _, bad := range trial.Wrong() {
		for _, pair := range [][2]api.Rat{{bad, good}, {good, bad}, {bad, bad}, {bad, trial.Frac(0, 1)}} {
			for name, e := range fails(pair[0], pair[1]) {
				if e != api.ErrForm {
					t.Errorf("P2.5, P2.6: %s(%v, %v): %d, want ErrForm", name, pair[0], pair[1], e)
				}
			}
		}
	}
	for i, bad := range trial.Long() {
		for _, other := range append(trial.Wrong(), good, trial.Frac(0, 1), bad) {
			for _, pair := range [][2]api.Rat{{bad, other}, {other, bad}} {
				for name, e := range fails(pair[0], pair[1]) {
					if e != api.ErrLong {
						t.Errorf("P2.5, P2.6: %s of long number %d and %d over %d limbs: %d, want ErrLong", name, i, len(other.Num), len(other.Den), e)
					}
				}
			}
		}
	}
}

func TestWrongSingles(t *testing.T) {
	check := func(bad api.Rat, want api.Errno) {
		t.Helper()
		if r, e := ratio.Neg(bad); e != want || !trial.Alike(r, api.Rat{}) {
			t.Errorf("P2.5: Neg: %v, %d, want %d", r, e, want)
		}
		if r, e := ratio.Floor(bad); e != want || !trial.Alike(r, api.Rat{}) {
			t.Errorf("P2.6: Floor: %v, %d, want %d", r, e, want)
		}
		if x, e := ratio.To(bad); e != want || math.Float64bits(x) != 0 {
			t.Errorf("P2.4: To: %g, %d, want %d", x, e, want)
		}
		if x, e := ratio.To32(bad); e != want || math.Float32bits(x) != 0 {
			t.Errorf("P2.4: To32: %g, %d, want %d", x, e, want)
		}
	}
	for _, bad := range trial.Wrong() {
		check(bad, api.ErrForm)
	}
	for _, bad := range trial.Long() {
		check(bad, api.ErrLong)
	}
	beyond := trial.Sum(trial.Up(3000))
	beyond.Num = append(beyond.Num, 0)
	check(beyond, api.ErrForm)
}

func TestAtTheLimit(t *testing.T) {
	// Both in form: the limbs of a's Num are even but for the lowest, its Den is a power of two.
	a := api.Rat{Num: append([]uint64{3}, trial.Ones(api.MaxLimbs-1, 1<<63)...), Den: append(make([]uint64, api.MaxLimbs-1), 1<<63)}
	b := api.Rat{Neg: true, Num: trial.Ones(api.MaxLimbs, math.MaxUint64), Den: append(make([]uint64, api.MaxLimbs-1), 1<<40)}
	for _, op := range binaries() {
		r, e := op.call(a, b)
		if want := trial.Told(op.want(new(big.Rat), trial.Value(a), trial.Value(b))); e != api.OK || !trial.Alike(r, want) {
			t.Errorf("P2.5: %s at MaxLimbs: %d over %d limbs, %d, want %d over %d", op.name, len(r.Num), len(r.Den), e, len(want.Num), len(want.Den))
		}
	}
	product, _ := ratio.Mul(a, b)
	if len(product.Num) <= api.MaxLimbs || !ratio.Form(product) {
		t.Errorf("P2.5: the product has %d over %d limbs", len(product.Num), len(product.Den))
	}
	if _, e := ratio.Neg(product); e != api.ErrLong {
		t.Errorf("P2.5: Neg of an answer beyond MaxLimbs: %d", e)
	}
	if c, e := ratio.Cmp(a, b); c != 1 || e != api.OK {
		t.Errorf("P2.6: Cmp at MaxLimbs: %d, %d", c, e)
	}
	if r, e := ratio.Floor(b); e != api.OK || !trial.Alike(r, trial.Told(new(big.Rat).SetInt64(-1<<24))) {
		t.Errorf("P2.6: Floor at MaxLimbs: %v, %d", r, e)
	}
}
