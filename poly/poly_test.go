package poly_test

import (
	"math"
	"math/big"
	"slices"
	"testing"

	"quaver/api"
	"quaver/gauss"
	"quaver/poly"
	"quaver/trial"
)

func TestForm(t *testing.T) {
	long := frac(1, 1)
	long.Re.Num = trial.Ones(api.MaxLimbs+5, 3)
	for _, p := range []api.Poly{nil, {}, trial.Reals(1), trial.Reals(0, 1), trial.Reals(0, 0, -7), of(trial.Whole(0, 0), trial.Whole(0, 1)), of(frac(1, 2), frac(2, 3)), high(200), of(long), of(long, frac(1, 3))} {
		if !poly.Form(p) {
			t.Errorf("P6.1: Form of %d places is false", len(p))
		}
	}
	for _, p := range []api.Poly{trial.Reals(0), trial.Reals(1, 0), trial.Reals(0, 0), append(high(100), trial.Whole(0, 0)), of(api.Gauss{}), of(long, api.Gauss{Re: trial.Frac(1, 1)}, frac(1, 1))} {
		if poly.Form(p) {
			t.Errorf("P6.1: Form of %d places is true", len(p))
		}
	}
	for _, bad := range trial.Either(trial.Wrong()) {
		if poly.Form(of(bad)) || poly.Form(of(bad, frac(1, 1))) || poly.Form(of(frac(1, 1), bad)) {
			t.Errorf("P6.1: Form of a polynomial with %v is true", bad)
		}
	}
}

func TestMake(t *testing.T) {
	full := append(high(api.MaxDegree-1), trial.Whole(0, 0))
	for _, c := range []struct{ list, want api.Poly }{
		{trial.Reals(1, 2, 0), trial.Reals(1, 2)}, {trial.Reals(0, 0), nil}, {nil, nil}, {api.Poly{}, nil}, {trial.Reals(0, 3), trial.Reals(0, 3)}, {trial.Reals(-5), trial.Reals(-5)},
		{of(trial.Whole(0, 0), trial.Whole(0, -1), trial.Whole(0, 0)), of(trial.Whole(0, 0), trial.Whole(0, -1))},
		{full, high(api.MaxDegree - 1)}, {high(api.MaxDegree), high(api.MaxDegree)}, {trial.Reals(make([]int64, api.MaxDegree+1)...), nil},
	} {
		if p, e := poly.Make(c.list); e != api.OK || !trial.AlikePoly(p, c.want) {
			t.Errorf("P6.1: Make(%v) = %v, %d", c.list, p, e)
		}
	}
	// Noughts at the end count.
	if p, e := poly.Make(trial.Reals(make([]int64, api.MaxDegree+2)...)); e != api.ErrLong || len(p) > 0 {
		t.Errorf("P6.1: Make of %d noughts: %d", api.MaxDegree+2, e)
	}
}

func TestFrom(t *testing.T) {
	minus := math.Copysign(0, -1)
	for _, c := range []struct {
		list []complex128
		want api.Poly
		e    api.Errno
	}{
		{[]complex128{1, 0.5}, of(frac(1, 1), frac(1, 2)), api.OK},
		{[]complex128{complex(0, -2), complex(minus, minus), 0}, of(trial.Whole(0, -2)), api.OK},
		{[]complex128{0, complex(minus, 0.25)}, of(trial.Whole(0, 0), api.Gauss{Re: trial.Frac(0, 1), Im: trial.Frac(1, 4)}), api.OK},
		{[]complex128{0x1p-1074}, of(api.Gauss{Re: trial.Sum(trial.Up(-1074)), Im: trial.Frac(0, 1)}), api.OK},
		{nil, nil, api.OK},
		{[]complex128{0}, nil, api.OK},
		{make([]complex128, api.MaxDegree+1), nil, api.OK},
		{make([]complex128, api.MaxDegree+2), nil, api.ErrLong},
		{append(make([]complex128, api.MaxDegree+1), complex(math.NaN(), 0)), nil, api.ErrLong},
		{[]complex128{1, complex(math.NaN(), 0)}, nil, api.ErrNaN},
		{[]complex128{complex(0, math.Inf(-1)), 1}, nil, api.ErrNaN},
		{[]complex128{1, complex(0, math.Inf(1)), 0}, nil, api.ErrNaN},
	} {
		if p, e := poly.From(c.list); e != c.e || !trial.AlikePoly(p, c.want) {
			t.Errorf("P6.1: From(%v) = %v, %d, want %v, %d", c.list, p, e, c.want, c.e)
		}
	}
}

func TestTo(t *testing.T) {
	beyond := api.Gauss{Re: trial.Sum(trial.Up(1024)), Im: trial.Frac(0, 1)}
	small := api.Gauss{Re: trial.Sum(trial.Up(-1075)), Im: trial.Sum(trial.Down(-1075))}
	third := api.Gauss{Re: trial.Frac(1, 3), Im: trial.Frac(-2, 3)}
	minus := math.Copysign(0, -1)
	for _, c := range []struct {
		p    api.Poly
		want []complex128
		e    api.Errno
	}{
		{nil, nil, api.OK},
		{trial.Reals(1, 0, -2), []complex128{1, 0, -2}, api.OK},
		{of(third, frac(1, 1)), []complex128{complex(1.0/3, -2.0/3), 1}, api.OK},
		{of(small), []complex128{complex(0, minus)}, api.OK}, // rounded to nought, and yet in form
		{of(frac(1, 1), small), []complex128{1, complex(0, minus)}, api.OK},
		{of(beyond), nil, api.ErrOver},
		{of(frac(1, 1), beyond, frac(1, 1)), nil, api.ErrOver},
		{of(beyond, trial.Whole(0, 0)), nil, api.ErrForm},
		{of(beyond, frac(2, 4)), nil, api.ErrForm},
		{append(high(api.MaxDegree), beyond), nil, api.ErrLong},
	} {
		list, e := poly.To(c.p)
		same := slices.EqualFunc(list, c.want, func(a, b complex128) bool {
			return math.Float64bits(real(a)) == math.Float64bits(real(b)) && math.Float64bits(imag(a)) == math.Float64bits(imag(b))
		})
		if e != c.e || !same {
			t.Errorf("P6.1: To(%v) = %v, %d, want %v, %d", c.p, list, e, c.want, c.e)
		}
	}
	list := make([]complex128, api.MaxDegree+1)
	mix := trial.Mixer(1)
	for i := range list {
		list[i] = complex(float64(int64(mix.Bits()))*0x1p-500, float64(int64(mix.Bits()))*0x1p300)
	}
	p, e := poly.From(list)
	back, f := poly.To(p)
	if e != api.OK || f != api.OK || !slices.Equal(back, list) {
		t.Errorf("P6.1: To(From(list)) = %v, %d, %d", back, e, f)
	}
}

func TestExamples(t *testing.T) {
	for _, c := range []struct {
		name string
		call func(p, q api.Poly) (api.Poly, api.Errno)
		p, q api.Poly
		want api.Poly
	}{
		{"Mul", poly.Mul, trial.Reals(1, 1), trial.Reals(-1, 1), trial.Reals(-1, 0, 1)},
		{"Mul", poly.Mul, nil, trial.Reals(-1, 1), nil},
		{"Mul", poly.Mul, trial.Reals(-1, 1), api.Poly{}, nil},
		{"Sub", poly.Sub, trial.Reals(1, 1), trial.Reals(0, 1), trial.Reals(1)},
		{"Sub", poly.Sub, nil, trial.Reals(0, 1), trial.Reals(0, -1)},
		{"Sub", poly.Sub, trial.Reals(3, 1), trial.Reals(3, 1), nil},
		{"Add", poly.Add, trial.Reals(1, 1), trial.Reals(1, -1), trial.Reals(2)},
		{"Add", poly.Add, nil, nil, nil},
		{"Add", poly.Add, trial.Reals(1), trial.Reals(0, 0, 1), trial.Reals(1, 0, 1)},
		{"Gcd", poly.Gcd, trial.Reals(-1, 0, 1), trial.Reals(1, 2, 1), trial.Reals(1, 1)},
		{"Gcd", poly.Gcd, trial.Reals(2), trial.Reals(3, 1), trial.Reals(1)},
		{"Gcd", poly.Gcd, trial.Reals(3, 1), trial.Reals(2), trial.Reals(1)},
		{"Gcd", poly.Gcd, trial.Reals(3), trial.Reals(2), trial.Reals(1)},
		{"Gcd", poly.Gcd, nil, trial.Reals(2, 4), of(frac(1, 2), frac(1, 1))},
		{"Gcd", poly.Gcd, trial.Reals(2, 4), nil, of(frac(1, 2), frac(1, 1))},
		{"Gcd", poly.Gcd, nil, trial.Reals(-5), trial.Reals(1)},
		{"Gcd", poly.Gcd, nil, api.Poly{}, nil},
		{"Gcd", poly.Gcd, trial.Reals(0, 0, 4), trial.Reals(0, 0, 0, 6), trial.Reals(0, 0, 1)},
		{"Gcd", poly.Gcd, trial.Reals(1, 0, 1), of(trial.Whole(0, -2), trial.Whole(2, 0)), of(trial.Whole(0, -1), trial.Whole(1, 0))},
	} {
		if p, e := c.call(c.p, c.q); e != api.OK || !trial.AlikePoly(p, c.want) {
			t.Errorf("P6.2, P6.4: %s(%v, %v) = %v, %d, want %v", c.name, c.p, c.q, p, e, c.want)
		}
	}
}

func TestQuoRem(t *testing.T) {
	for _, c := range []struct {
		p, q, a, r api.Poly
		e          api.Errno
	}{
		{trial.Reals(-1, 0, 1), trial.Reals(1, 1), trial.Reals(-1, 1), nil, api.OK},
		{trial.Reals(1, 1), trial.Reals(-1, 0, 1), nil, trial.Reals(1, 1), api.OK},
		{trial.Reals(1), nil, nil, nil, api.ErrZero},
		{nil, nil, nil, nil, api.ErrZero},
		{trial.Reals(1), trial.Reals(0), nil, nil, api.ErrForm},
		{trial.Reals(1, 0), nil, nil, nil, api.ErrForm},
		{nil, trial.Reals(3), nil, nil, api.OK},
		{nil, trial.Reals(1, 2, 3), nil, nil, api.OK},
		{trial.Reals(4, 2), trial.Reals(3), of(frac(4, 3), frac(2, 3)), nil, api.OK},
		{trial.Reals(1, 0, 0, 1), trial.Reals(0, 0, 2), of(trial.Whole(0, 0), frac(1, 2)), trial.Reals(1), api.OK},
		{trial.Reals(1, 0, 0, 0, 1), of(trial.Whole(0, 1), trial.Whole(0, 0), trial.Whole(0, 2)), of(api.Gauss{Re: trial.Frac(0, 1), Im: trial.Frac(1, 4)}, trial.Whole(0, 0), api.Gauss{Re: trial.Frac(0, 1), Im: trial.Frac(-1, 2)}), of(frac(5, 4)), api.OK},
	} {
		a, r, e := poly.QuoRem(c.p, c.q)
		if e != c.e || !trial.AlikePoly(a, c.a) || !trial.AlikePoly(r, c.r) {
			t.Errorf("P6.2: QuoRem(%v, %v) = %v, %v, %d, want %v, %v, %d", c.p, c.q, a, r, e, c.a, c.r, c.e)
		}
	}
}

// long is a polynomial of more places and limbs than those of the sweep.
func long(mix *trial.Mixer, places, limbs int) api.Poly {
	p := make(api.Poly, places)
	for i := range p {
		p[i] = mix.Gauss(limbs)
	}
	p[places-1] = trial.Whole(3, -2)
	return p
}

func TestSteps(t *testing.T) {
	mix := trial.Mixer(2)
	for round := range 300 {
		p, q := mix.Poly(6, 2), mix.Poly(6, 2)
		switch {
		case round%4 == 1: // the upper coefficients fall away
			q = slices.Clone(p)
			for i := range len(q) / 2 {
				q[i] = mix.Gauss(2)
			}
			q, _ = poly.Make(q)
		case round%50 == 0:
			p, q = long(&mix, 20, 3), long(&mix, 9, 3)
		}
		x, y := trial.ValuePoly(p), trial.ValuePoly(q)
		minus := trial.Line{trial.ValueGauss(trial.Whole(-1, 0))}
		for _, c := range []struct {
			name string
			call func(p, q api.Poly) (api.Poly, api.Errno)
			want trial.Line
		}{{"Add", poly.Add, x.Add(y)}, {"Sub", poly.Sub, x.Add(minus.Mul(y))}, {"Mul", poly.Mul, x.Mul(y)}} {
			if got, e := c.call(p, q); e != api.OK || !trial.AlikePoly(got, c.want.Poly()) || !poly.Form(got) {
				t.Fatalf("P6.2: %s(%v, %v) = %v, %d, want %v", c.name, p, q, got, e, c.want.Poly())
			}
		}
		if len(q) == 0 {
			continue
		}
		quotient, rest := x.QuoRem(y)
		if a, r, e := poly.QuoRem(p, q); e != api.OK || !trial.AlikePoly(a, quotient.Poly()) || !trial.AlikePoly(r, rest.Poly()) {
			t.Fatalf("P6.2: QuoRem(%v, %v) = %v, %v, %d", p, q, a, r, e)
		}
		if a, r, e := poly.QuoRem(x.Mul(y).Poly(), q); e != api.OK || !trial.AlikePoly(a, p) || len(r) > 0 {
			t.Fatalf("P6.2: QuoRem(%v times %v, the second) = %v, %v, %d", p, q, a, r, e)
		}
	}
}

func TestScaleMonic(t *testing.T) {
	if p, e := poly.Scale(trial.Reals(1, 1), trial.Whole(0, 0)); e != api.OK || len(p) != 0 {
		t.Errorf("P6.2: Scale([1 1], 0) = %v, %d", p, e)
	}
	if p, e := poly.Monic(trial.Reals(2, 4)); e != api.OK || !trial.AlikePoly(p, of(frac(1, 2), frac(1, 1))) {
		t.Errorf("P6.2: Monic([2 4]) = %v, %d", p, e)
	}
	if p, e := poly.Monic(nil); e != api.ErrZero || len(p) != 0 {
		t.Errorf("P6.2: Monic(nought) = %v, %d", p, e)
	}
	if p, e := poly.Monic(of(trial.Whole(2, 0), trial.Whole(0, 2))); e != api.OK || !trial.AlikePoly(p, of(trial.Whole(0, -1), trial.Whole(1, 0))) {
		t.Errorf("P6.2: Monic([2 2i]) = %v, %d", p, e)
	}
	mix := trial.Mixer(3)
	for range 300 {
		p, g := mix.Poly(5, 3), mix.Gauss(3)
		want := trial.ValuePoly(p).Mul(trial.Line{trial.ValueGauss(g)})
		if got, e := poly.Scale(p, g); e != api.OK || !trial.AlikePoly(got, want.Poly()) {
			t.Fatalf("P6.2: Scale(%v, %v) = %v, %d", p, g, got, e)
		}
		if len(p) == 0 {
			continue
		}
		if got, e := poly.Monic(p); e != api.OK || !trial.AlikePoly(got, trial.ValuePoly(p).Monic().Poly()) {
			t.Fatalf("P6.2: Monic(%v) = %v, %d", p, got, e)
		}
	}
}

func TestEval(t *testing.T) {
	for _, c := range []struct {
		p       api.Poly
		z, want api.Gauss
	}{
		{trial.Reals(1, 2, 3), trial.Whole(0, 1), trial.Whole(-2, 2)}, {nil, trial.Whole(5, 6), trial.Whole(0, 0)}, {trial.Reals(7), trial.Whole(0, 0), trial.Whole(7, 0)}, {trial.Reals(7, 1), trial.Whole(0, 0), trial.Whole(7, 0)}, {trial.Reals(-1, 0, 4), frac(1, 2), trial.Whole(0, 0)},
	} {
		if v, e := poly.Eval(c.p, c.z); e != api.OK || !trial.AlikeGauss(v, c.want) {
			t.Errorf("P6.3: Eval(%v, %v) = %v, %d, want %v", c.p, c.z, v, e, c.want)
		}
	}
	mix := trial.Mixer(4)
	for range 300 {
		p, z := mix.Poly(6, 2), mix.Gauss(2)
		value, power := trial.ValueGauss(trial.Whole(0, 0)), trial.ValueGauss(trial.Whole(1, 0))
		for _, c := range p {
			value = value.Add(power.Mul(trial.ValueGauss(c)))
			power = power.Mul(trial.ValueGauss(z))
		}
		if v, e := poly.Eval(p, z); e != api.OK || !trial.AlikeGauss(v, value.Gauss()) || !gauss.Form(v) {
			t.Fatalf("P6.3: Eval(%v, %v) = %v, %d, want %v", p, z, v, e, value.Gauss())
		}
	}
}

func TestDerive(t *testing.T) {
	for _, c := range []struct{ p, want api.Poly }{
		{trial.Reals(1, 2, 3), trial.Reals(2, 6)}, {trial.Reals(9), nil}, {nil, nil}, {trial.Reals(0, 0, 0, 2), trial.Reals(0, 0, 6)}, {of(trial.Whole(1, 1), frac(1, 2), trial.Whole(0, 5)), of(frac(1, 2), trial.Whole(0, 10))},
	} {
		if p, e := poly.Derive(c.p); e != api.OK || !trial.AlikePoly(p, c.want) {
			t.Errorf("P6.3: Derive(%v) = %v, %d, want %v", c.p, p, e, c.want)
		}
	}
	mix := trial.Mixer(5)
	for range 200 {
		p := mix.Poly(8, 2)
		want := make(trial.Line, max(len(p)-1, 0))
		for i := range want {
			want[i] = trial.ValueGauss(p[i+1]).Mul(trial.Complex{Re: new(big.Rat).SetInt64(int64(i + 1)), Im: new(big.Rat)})
		}
		if got, e := poly.Derive(p); e != api.OK || !trial.AlikePoly(got, want.Poly()) {
			t.Fatalf("P6.3: Derive(%v) = %v, %d", p, got, e)
		}
	}
}

func TestStar(t *testing.T) {
	p := of(trial.Whole(1, 0), trial.Whole(0, 2))
	for _, c := range []struct {
		p    api.Poly
		n    int
		want api.Poly
		e    api.Errno
	}{
		{p, 1, of(trial.Whole(0, -2), trial.Whole(1, 0)), api.OK},
		{p, 2, of(trial.Whole(0, 0), trial.Whole(0, -2), trial.Whole(1, 0)), api.OK},
		{p, 0, nil, api.ErrArg}, {p, -1, nil, api.ErrArg}, {p, math.MinInt, nil, api.ErrArg}, {p, math.MaxInt, nil, api.ErrArg}, {p, api.MaxDegree + 1, nil, api.ErrArg},
		{trial.Reals(0, 1), 1, trial.Reals(1), api.OK},
		{trial.Reals(0, 0, 3, 4), 3, trial.Reals(4, 3), api.OK},
		{trial.Reals(5), 0, trial.Reals(5), api.OK},
		{trial.Reals(1, 1), 0, nil, api.ErrArg},
		{nil, 3, nil, api.OK}, {nil, 0, nil, api.OK}, {nil, api.MaxDegree, nil, api.OK}, {nil, -1, nil, api.ErrArg}, {nil, api.MaxDegree + 1, nil, api.ErrArg},
		{high(api.MaxDegree), api.MaxDegree, high(api.MaxDegree), api.OK},
		{high(api.MaxDegree), api.MaxDegree - 1, nil, api.ErrArg},
		{high(api.MaxDegree + 1), api.MaxDegree, nil, api.ErrArg}, {high(api.MaxDegree + 1), api.MaxDegree + 1, nil, api.ErrArg},
		// Places count, whatever stands there; an n that fits leaves it to the form.
		{trial.Reals(1, 0, 0), 1, nil, api.ErrArg}, {trial.Reals(1, 0, 0), 2, nil, api.ErrForm}, {make(api.Poly, 3), 1, nil, api.ErrArg}, {make(api.Poly, 3), 2, nil, api.ErrForm},
		{of(api.Gauss{Re: trial.Long()[0], Im: trial.Frac(0, 1)}), 0, nil, api.ErrLong}, {of(api.Gauss{Re: trial.Long()[0], Im: trial.Frac(0, 1)}), -1, nil, api.ErrArg},
	} {
		if got, e := poly.Star(c.p, c.n); e != c.e || !trial.AlikePoly(got, c.want) {
			t.Errorf("P6.5: Star(%v, %d) = %v, %d, want %v, %d", c.p, c.n, got, e, c.want, c.e)
		}
	}
	mix := trial.Mixer(6)
	for range 200 {
		p := mix.Poly(6, 2)
		n := max(len(p)-1, 0) + mix.Below(4)
		want := make(trial.Line, n+1)
		for i := range want {
			want[i] = trial.ValueGauss(trial.Whole(0, 0))
			if n-i < len(p) {
				want[i] = trial.ValueGauss(p[n-i]).Conj()
			}
		}
		if got, e := poly.Star(p, n); e != api.OK || !trial.AlikePoly(got, want.Poly()) {
			t.Fatalf("P6.5: Star(%v, %d) = %v, %d", p, n, got, e)
		}
	}
}
