package bilin_test

import (
	"testing"

	"quaver/api"
	"quaver/bilin"
	"quaver/trial"
)

// one is 1.
func one() api.Rat { return trial.Frac(1, 1) }

// rational is r without an imaginary part.
func rational(r api.Rat) api.Gauss {
	return api.Gauss{Re: r, Im: trial.Frac(0, 1)}
}

// whole is the complex number a + bi, reckoned by another road.
func whole(a, b int64) trial.Complex {
	return trial.Fraction(a, b, 1)
}

// power is p^n.
func power(p trial.Line, n int) trial.Line {
	all := trial.Line{whole(1, 0)}
	for range n {
		all = all.Mul(p)
	}
	return all
}

// number is z^n.
func number(z trial.Complex, n int) trial.Complex {
	all := whole(1, 0)
	for range n {
		all = all.Mul(z)
	}
	return all
}

// sum is all of p's coefficients, each times what the rule has for its place.
func sum(p api.Poly, rule func(i int) trial.Line) api.Poly {
	var all trial.Line
	for i, c := range trial.ValuePoly(p) {
		all = all.Add(trial.Line{c}.Mul(rule(i)))
	}
	return all.Poly()
}

// mapped is P23.1, word by word.
func mapped(p api.Poly, n int, t api.Rat) api.Poly {
	less, more := trial.Line{whole(-1, 0), whole(1, 0)}, trial.Line{whole(1, 0), whole(1, 0)}
	tangent := trial.ValueGauss(rational(t))
	return sum(p, func(i int) trial.Line {
		over := trial.Line{whole(1, 0).Quo(number(tangent, i))}
		return power(less, i).Mul(power(more, n-i)).Mul(over)
	})
}

// backed is P23.2, word by word.
func backed(p api.Poly, n int, t api.Rat) api.Poly {
	tangent := trial.ValueGauss(rational(t))
	more, less := trial.Line{whole(1, 0), tangent}, trial.Line{whole(1, 0), whole(0, 0).Sub(tangent)}
	return sum(p, func(i int) trial.Line { return power(more, i).Mul(power(less, n-i)) })
}

// at is p's value at z.
func at(p api.Poly, z trial.Complex) trial.Complex {
	all := whole(0, 0)
	for i, c := range trial.ValuePoly(p) {
		all = all.Add(c.Mul(number(z, i)))
	}
	return all
}

// times is p times x.
func times(p api.Poly, x trial.Complex) api.Poly {
	return trial.ValuePoly(p).Mul(trial.Line{x}).Poly()
}

// is looks whether a polynomial was answered, and which.
func is(t *testing.T, name string, got api.Poly, e api.Errno, want api.Poly) {
	t.Helper()
	if e != api.OK || !trial.AlikePoly(got, want) {
		t.Errorf("%s = %v, %d, want %v", name, got, e, want)
	}
}

// fails looks whether an error was answered, and nothing beside it.
func fails(t *testing.T, name string, got api.Poly, e, want api.Errno) {
	t.Helper()
	if e != want || len(got) > 0 {
		t.Errorf("%s: %d places, %d, want %d", name, len(got), e, want)
	}
}

// across are the two calls that take a polynomial from one plane to the other.
func across() map[string]func(p api.Poly, n int, t api.Rat) (api.Poly, api.Errno) {
	return map[string]func(p api.Poly, n int, t api.Rat) (api.Poly, api.Errno){"Map": bilin.Map, "Back": bilin.Back}
}

// tangent is a number above nought, of up to so many limbs.
func tangent(mix *trial.Mixer, most int) api.Rat {
	for {
		r := mix.Rat(most)
		r.Neg = false
		if len(r.Num) > 0 {
			return r
		}
	}
}

// dense is the polynomial of n + 1 coefficients, none of them nought.
func dense(n int) api.Poly {
	p := make(api.Poly, n+1)
	for i := range p {
		p[i] = trial.Fraction(int64(i+1), int64(7-3*i), int64(i%5+1)).Gauss()
	}
	return p
}
