package poly_test

import (
	"quaver/api"
	"quaver/poly"
	"quaver/trial"
)

// of is the polynomial of these coefficients, written as they stand.
func of(list ...api.Gauss) api.Poly { return list }

// frac is n over d.
func frac(n int64, d uint64) api.Gauss {
	return api.Gauss{Re: trial.Frac(n, d), Im: trial.Frac(0, 1)}
}

// product is all of these multiplied, by another road.
func product(list ...api.Poly) api.Poly {
	all := trial.ValuePoly(trial.Reals(1))
	for _, p := range list {
		all = all.Mul(trial.ValuePoly(p))
	}
	return all.Poly()
}

// line is z - r.
func line(r api.Gauss) api.Poly {
	return trial.Line{trial.ValueGauss(trial.Whole(0, 0)).Sub(trial.ValueGauss(r)), trial.ValueGauss(trial.Whole(1, 0))}.Poly()
}

// power is p^n.
func power(p api.Poly, n int) api.Poly {
	list := make([]api.Poly, n)
	for i := range list {
		list[i] = p
	}
	return product(list...)
}

// high is the polynomial z^n + 1.
func high(n int) api.Poly {
	p := make(api.Poly, n+1)
	for i := range p {
		p[i] = trial.Whole(0, 0)
	}
	p[0], p[n] = trial.Whole(1, 0), trial.Whole(1, 0)
	return p
}

// The kinds of calls: of one polynomial, of two, of one and a number. What is answered beside the error is a list of polynomials.
type (
	single func(p api.Poly) ([]api.Poly, api.Errno)
	double func(p, q api.Poly) ([]api.Poly, api.Errno)
	mixed  func(p api.Poly, g api.Gauss) ([]api.Poly, api.Errno)
	listed func(list []api.Gauss) ([]api.Poly, api.Errno)
)

func one(p api.Poly, e api.Errno) ([]api.Poly, api.Errno) { return []api.Poly{p}, e }

func singles() map[string]single {
	return map[string]single{
		"Monic":  func(p api.Poly) ([]api.Poly, api.Errno) { return one(poly.Monic(p)) },
		"Derive": func(p api.Poly) ([]api.Poly, api.Errno) { return one(poly.Derive(p)) },
		"Square": poly.Square,
		"Star":   func(p api.Poly) ([]api.Poly, api.Errno) { return one(poly.Star(p, api.MaxDegree)) },
		"To": func(p api.Poly) ([]api.Poly, api.Errno) {
			list, e := poly.To(p)
			return []api.Poly{make(api.Poly, len(list))}, e
		},
	}
}

func doubles() map[string]double {
	return map[string]double{
		"Add": func(p, q api.Poly) ([]api.Poly, api.Errno) { return one(poly.Add(p, q)) },
		"Sub": func(p, q api.Poly) ([]api.Poly, api.Errno) { return one(poly.Sub(p, q)) },
		"Mul": func(p, q api.Poly) ([]api.Poly, api.Errno) { return one(poly.Mul(p, q)) },
		"Gcd": func(p, q api.Poly) ([]api.Poly, api.Errno) { return one(poly.Gcd(p, q)) },
		"QuoRem": func(p, q api.Poly) ([]api.Poly, api.Errno) {
			a, r, e := poly.QuoRem(p, q)
			return []api.Poly{a, r}, e
		},
	}
}

func mixeds() map[string]mixed {
	return map[string]mixed{
		"Scale": func(p api.Poly, g api.Gauss) ([]api.Poly, api.Errno) { return one(poly.Scale(p, g)) },
		"Eval": func(p api.Poly, g api.Gauss) ([]api.Poly, api.Errno) {
			v, e := poly.Eval(p, g)
			if trial.AlikeGauss(v, api.Gauss{}) { // no number in form
				return nil, e
			}
			return one(api.Poly{v}, e)
		},
	}
}

func listeds() map[string]listed {
	return map[string]listed{
		"Make":  func(list []api.Gauss) ([]api.Poly, api.Errno) { return one(poly.Make(list)) },
		"Roots": func(list []api.Gauss) ([]api.Poly, api.Errno) { return one(poly.Roots(list)) },
	}
}

// fault is the error of a call, or -1, where another result beside it is not its zero value.
func fault(answers []api.Poly, e api.Errno) api.Errno {
	for _, p := range answers {
		if e != api.OK && len(p) > 0 {
			return -1
		}
	}
	return e
}
