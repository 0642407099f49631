package poly_test

import (
	"slices"
	"testing"

	"quaver/api"
	"quaver/poly"
	"quaver/trial"
)

func TestGcd(t *testing.T) {
	mix := trial.Mixer(7)
	for round := range 250 {
		limbs := 1 + round%2
		p, q := mix.Poly(5, limbs), mix.Poly(5, limbs)
		switch round % 5 {
		case 1: // one in common
			d := mix.Poly(4, limbs)
			p, q = product(p, d), product(q, d)
		case 2: // one divides the other
			q = product(p, q)
		case 3: // one comes several times
			d := mix.Poly(2, limbs)
			p, q = product(p, d, d, d), product(q, d, d)
		case 4:
			q = slices.Clone(p)
		}
		want := trial.ValuePoly(p).Gcd(trial.ValuePoly(q)).Poly()
		if g, e := poly.Gcd(p, q); e != api.OK || !trial.AlikePoly(g, want) {
			t.Fatalf("P6.4: Gcd(%v, %v) = %v, %d, want %v", p, q, g, e, want)
		}
		if g, e := poly.Gcd(q, p); e != api.OK || !trial.AlikePoly(g, want) {
			t.Fatalf("P6.4: Gcd(%v, %v) = %v, %d, want %v", q, p, g, e, want)
		}
	}
}

// number is a root that differs from those of other n: parts of some bits over small numbers.
func number(mix *trial.Mixer, n int) api.Gauss {
	x := trial.ValueGauss(api.Gauss{Re: trial.Frac(int64(mix.Bits()>>8), 1), Im: trial.Frac(int64(mix.Below(9))-4, 1)})
	return x.Quo(trial.ValueGauss(trial.Whole(int64(2*n+3), int64(mix.Below(3))))).Gauss()
}

// numbers is so many unlike roots.
func numbers(mix *trial.Mixer, n int) []api.Gauss {
	list := make([]api.Gauss, n)
	for i := range list {
		list[i] = number(mix, i)
	}
	return list
}

func lines(list []api.Gauss) api.Poly {
	var all []api.Poly
	for _, r := range list {
		all = append(all, line(r))
	}
	return product(all...)
}

func TestGcdIsWhatIsInCommon(t *testing.T) {
	mix := trial.Mixer(8)
	list := numbers(&mix, 30)
	for _, c := range []struct{ from, to int }{{0, 14}, {13, 14}, {10, 14}, {14, 14}} {
		// Roots 0 to 13 and from on: those from there to 13 are in common.
		p, q := lines(list[:14]), lines(list[c.from:])
		p, _ = poly.Scale(p, number(&mix, 50))
		q, _ = poly.Scale(q, number(&mix, 51))
		if g, e := poly.Gcd(p, q); e != api.OK || !trial.AlikePoly(g, lines(list[c.from:c.to])) {
			t.Errorf("P6.4: Gcd of polynomials with %d roots in common has %d places, %d", c.to-c.from, len(g), e)
		}
	}
}

func TestRoots(t *testing.T) {
	for _, c := range []struct {
		list []api.Gauss
		want api.Poly
	}{
		{nil, trial.Reals(1)}, {[]api.Gauss{}, trial.Reals(1)}, {trial.Reals(1, -1), trial.Reals(-1, 0, 1)}, {trial.Reals(0, 0, 0), trial.Reals(0, 0, 0, 1)}, {trial.Reals(2, 2), trial.Reals(4, -4, 1)},
		{[]api.Gauss{trial.Whole(0, 1), trial.Whole(0, -1), trial.Whole(2, 0)}, trial.Reals(-2, 1, -2, 1)},
		{[]api.Gauss{frac(1, 2), frac(-1, 3)}, of(frac(-1, 6), frac(-1, 6), frac(1, 1))},
	} {
		if p, e := poly.Roots(c.list); e != api.OK || !trial.AlikePoly(p, c.want) {
			t.Errorf("P6.4: Roots(%v) = %v, %d, want %v", c.list, p, e, c.want)
		}
	}
	mix := trial.Mixer(9)
	for range 100 {
		list := make([]api.Gauss, mix.Below(6))
		for i := range list {
			list[i] = mix.Gauss(2)
		}
		p, e := poly.Roots(list)
		if e != api.OK || !trial.AlikePoly(p, lines(list)) {
			t.Fatalf("P6.4: Roots(%v) = %v, %d", list, p, e)
		}
		for _, r := range list {
			if v, e := poly.Eval(p, r); e != api.OK || !trial.Nought(v) {
				t.Fatalf("P6.4: Roots(%v) at %v is %v, %d", list, r, v, e)
			}
		}
	}
	full := trial.Reals(make([]int64, api.MaxDegree)...)
	if p, e := poly.Roots(full); e != api.OK || len(p) != api.MaxDegree+1 {
		t.Errorf("P6.4: Roots of MaxDegree noughts: %d places, %d", len(p), e)
	}
	if p, e := poly.Roots(append(full, trial.Whole(0, 0))); e != api.ErrLong || len(p) != 0 {
		t.Errorf("P6.4: Roots of MaxDegree + 1 noughts: %d places, %d", len(p), e)
	}
}

func TestSquareExamples(t *testing.T) {
	a, b, c := trial.Reals(-1, 1), trial.Reals(2, 1), trial.Reals(1, 0, 1)
	unit, i := trial.Reals(1), of(trial.Whole(0, -1), trial.Whole(1, 0))
	for _, x := range []struct {
		p    api.Poly
		want []api.Poly
		e    api.Errno
	}{
		{product(a, b, b), []api.Poly{a, b}, api.OK},
		{trial.Reals(0, 0, 0, 5), []api.Poly{unit, unit, trial.Reals(0, 1)}, api.OK},
		{trial.Reals(7), nil, api.OK},
		{of(trial.Whole(0, 7)), nil, api.OK},
		{nil, nil, api.ErrZero},
		{api.Poly{}, nil, api.ErrZero},
		{trial.Reals(0), nil, api.ErrForm},
		{a, []api.Poly{a}, api.OK},
		{trial.Reals(3, 0, 3), []api.Poly{c}, api.OK},
		{product(c, i), []api.Poly{of(trial.Whole(0, 1), trial.Whole(1, 0)), i}, api.OK}, // i twice, -i once
		{product(a, c, power(b, 4), trial.Reals(-9)), []api.Poly{product(a, c), unit, unit, b}, api.OK},
		{power(a, api.MaxDegree), append(slices.Repeat([]api.Poly{unit}, api.MaxDegree-1), a), api.OK},
		{high(api.MaxDegree), []api.Poly{high(api.MaxDegree)}, api.OK},
	} {
		if list, e := poly.Square(x.p); e != x.e || !trial.AlikePolys(list, x.want) {
			t.Errorf("P6.6: Square(%v) = %v, %d, want %v, %d", x.p, list, e, x.want, x.e)
		}
	}
}

func TestSquare(t *testing.T) {
	mix := trial.Mixer(10)
	for round := range 60 {
		list := numbers(&mix, 1+mix.Below(5))
		if round%3 == 0 {
			list[0] = trial.Whole(0, 0)
		}
		powers := make([][]api.Gauss, 5) // the roots that come once, twice and so on
		p := of(number(&mix, 40))
		most := 0
		for _, r := range list {
			n := mix.Below(5)
			powers[n] = append(powers[n], r)
			p = product(p, power(line(r), n+1))
			most = max(most, n+1)
		}
		var want []api.Poly
		for _, roots := range powers[:most] {
			want = append(want, lines(roots))
		}
		if got, e := poly.Square(p); e != api.OK || !trial.AlikePolys(got, want) {
			t.Fatalf("P6.6: Square of roots %v: %v, %d, want %v", powers, got, e, want)
		}
	}
}

func TestSquareOfFloats(t *testing.T) {
	mix := trial.Mixer(11)
	list := make([]api.Gauss, 20)
	for i := range list {
		list[i] = api.Gauss{Re: trial.Sum(trial.Up(-mix.Below(60)), trial.Down(-mix.Below(900))), Im: trial.Frac(int64(i)-7, 1)}
	}
	once, twice := lines(list[:10]), lines(list[10:])
	p := product(once, twice, twice)
	if got, e := poly.Square(p); e != api.OK || !trial.AlikePolys(got, []api.Poly{once, twice}) {
		t.Errorf("P6.6: Square of ten roots once and ten twice: %d powers, %d", len(got), e)
	}
}

// small is a polynomial of coefficients with parts -1, 0 and 1: such ones have many roots in common.
func small(mix *trial.Mixer) api.Poly {
	p := make(api.Poly, mix.Below(6))
	for i := range p {
		p[i] = trial.Whole(int64(mix.Below(3))-1, int64(mix.Below(5)/2)*int64(mix.Below(2)))
	}
	return trial.ValuePoly(p).Poly()
}

// derived is p's derivative, by another road.
func derived(p trial.Line) trial.Line {
	var list trial.Line
	for i, c := range p {
		list = append(list, trial.ValueGauss(trial.Whole(int64(i), 0)).Mul(c))
	}
	return list[min(1, len(list)):].Trim()
}

func TestSmallOnes(t *testing.T) {
	mix := trial.Mixer(12)
	for range 1500 {
		p, q := small(&mix), small(&mix)
		want := trial.ValuePoly(p).Gcd(trial.ValuePoly(q)).Poly()
		if g, e := poly.Gcd(p, q); e != api.OK || !trial.AlikePoly(g, want) {
			t.Fatalf("P6.4: Gcd(%v, %v) = %v, %d, want %v", p, q, g, e, want)
		}
		all := product(p, q, q)
		list, e := poly.Square(all)
		if len(all) == 0 {
			continue
		}
		back := trial.Reals(1)
		roots := trial.ValuePoly(back)
		for i, s := range list {
			back = product(back, power(s, i+1))
			roots = roots.Mul(trial.ValuePoly(s))
		}
		// No root twice in one of them, none in two of them: none twice in their product.
		if e != api.OK || !trial.AlikePoly(back, trial.ValuePoly(all).Monic().Poly()) || len(roots.Gcd(derived(roots))) != 1 || len(list) > 0 && len(list[len(list)-1]) < 2 {
			t.Fatalf("P6.6: Square(%v) = %v, %d", all, list, e)
		}
	}
}
