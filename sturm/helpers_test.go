package sturm_test

import (
	"math/big"
	"slices"

	"quaver/api"
	"quaver/sturm"
	"quaver/trial"
)

// plain is the number x.
func plain(x *big.Rat) trial.Complex {
	return trial.Complex{Re: x, Im: new(big.Rat)}
}

// times is z, n times.
func times(z trial.Complex, n int) []trial.Complex {
	return slices.Repeat([]trial.Complex{z}, n)
}

// unlike is the unlike ones of these numbers.
func unlike(list []trial.Complex) []trial.Complex {
	var all []trial.Complex
	for _, z := range list {
		if !slices.ContainsFunc(all, func(a trial.Complex) bool { return a.Sub(z).Nought() }) {
			all = append(all, z)
		}
	}
	return all
}

// between is how many unlike real roots lie above a and not above b; nil stands for no bound.
func between(list []trial.Complex, a, b *big.Rat) int {
	n := 0
	for _, z := range unlike(list) {
		if z.Im.Sign() == 0 && (a == nil || z.Re.Cmp(a) > 0) && (b == nil || z.Re.Cmp(b) <= 0) {
			n++
		}
	}
	return n
}

// sides is how many roots lie above the real line, on it and below.
func sides(list []trial.Complex) [3]int {
	var found [3]int
	for _, z := range list {
		found[1-z.Im.Sign()]++
	}
	return found
}

// upper is what Upper tells, and the error.
func upper(p api.Poly) ([3]int, api.Errno) {
	a, b, c, e := sturm.Upper(p)
	return [3]int{a, b, c}, e
}

// onCircle is how many unlike points of the circle are among these.
func onCircle(list []trial.Complex) int {
	n := 0
	for _, z := range unlike(list) {
		if z.Norm().Cmp(big.NewRat(1, 1)) == 0 {
			n++
		}
	}
	return n
}

// withConj is these numbers and the conjugates of those that are not real: roots of a polynomial of real coefficients.
func withConj(list []trial.Complex) []trial.Complex {
	var all []trial.Complex
	for _, z := range list {
		all = append(all, z)
		if z.Im.Sign() != 0 {
			all = append(all, z.Conj())
		}
	}
	return all
}

// minus is p with all signs turned.
func minus(p trial.Line) trial.Line {
	return trial.Line{trial.Fraction(-1, 0, 1)}.Mul(p)
}

// derived is p's derivative.
func derived(p trial.Line) trial.Line {
	var list trial.Line
	for i, c := range p[1:] {
		list = append(list, c.Mul(trial.Fraction(int64(i+1), 0, 1)))
	}
	return list
}

// euclid is Sturm's chain, step by step as it is written; p is not nought.
func euclid(p trial.Line) []trial.Line {
	list := []trial.Line{p}
	next := derived(p)
	for len(next) > 0 {
		list = append(list, next)
		_, rest := list[len(list)-2].QuoRem(next)
		next = minus(rest)
	}
	return list
}

func polys(list []trial.Line) []api.Poly {
	var all []api.Poly
	for _, p := range list {
		all = append(all, p.Poly())
	}
	return all
}

// value is p at x.
func value(p trial.Line, x *big.Rat) *big.Rat {
	sum := plain(new(big.Rat))
	for _, c := range slices.Backward(p) {
		sum = sum.Mul(plain(x)).Add(c)
	}
	return sum.Re
}

// changes is how often the signs of a chain at x change, noughts left out.
func changes(chain []trial.Line, x *big.Rat) int {
	n, last := 0, 0
	for _, p := range chain {
		sign := value(p, x).Sign()
		if sign != 0 && last != 0 && sign != last {
			n++
		}
		if sign != 0 {
			last = sign
		}
	}
	return n
}

// bound is a number beyond all roots of all polynomials of a chain.
func bound(chain []trial.Line) *big.Rat {
	most := big.NewRat(1, 1)
	for _, p := range chain {
		sum := big.NewRat(1, 1)
		for _, c := range p {
			x := new(big.Rat).Quo(c.Re, p[len(p)-1].Re)
			sum.Add(sum, x.Abs(x))
		}
		if sum.Cmp(most) > 0 {
			most = sum
		}
	}
	return most
}

// laid is P11.3's sum, product by product.
func laid(p trial.Line) trial.Line {
	up, down := trial.Line{trial.Fraction(1, 0, 1), trial.Fraction(0, 1, 1)}, trial.Line{trial.Fraction(1, 0, 1), trial.Fraction(0, -1, 1)}
	var sum trial.Line
	for j, c := range p {
		term := trial.Line{c}
		for range j {
			term = term.Mul(up)
		}
		for range len(p) - 1 - j {
			term = term.Mul(down)
		}
		sum = sum.Add(term)
	}
	return sum
}

// answer is what a call answers beside its error: polynomials and counts.
type answer struct {
	polys  []api.Poly
	counts []int
}

type call func(p api.Poly) (answer, api.Errno)

func counted(n int, e api.Errno) (answer, api.Errno) { return answer{counts: []int{n}}, e }

// calls: every call of a polynomial alone, Between from -1 up to 2.
func calls() map[string]call {
	return map[string]call{
		"Chain": func(p api.Poly) (answer, api.Errno) {
			list, e := sturm.Chain(p)
			return answer{polys: list}, e
		},
		"Real": func(p api.Poly) (answer, api.Errno) { return counted(sturm.Real(p)) },
		"Between": func(p api.Poly) (answer, api.Errno) {
			return counted(sturm.Between(p, trial.Frac(-1, 1), trial.Frac(2, 1)))
		},
		"Line": func(p api.Poly) (answer, api.Errno) {
			q, e := sturm.Line(p)
			if len(q) == 0 {
				return answer{}, e
			}
			return answer{polys: []api.Poly{q}}, e
		},
		"OnCircle": func(p api.Poly) (answer, api.Errno) { return counted(sturm.OnCircle(p)) },
		"Upper": func(p api.Poly) (answer, api.Errno) {
			found, e := upper(p)
			return answer{counts: found[:]}, e
		},
	}
}

// realOnly: does the call take real coefficients alone?
func realOnly(name string) bool {
	return name == "Chain" || name == "Real" || name == "Between"
}

// fault is the error of a call, or -1, where another result beside it is not its zero value.
func fault(a answer, e api.Errno) api.Errno {
	if e != api.OK && (len(a.polys) > 0 || slices.ContainsFunc(a.counts, func(n int) bool { return n != 0 })) {
		return -1
	}
	return e
}
