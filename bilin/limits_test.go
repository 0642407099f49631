package bilin_test

import (
	"math"
	"slices"
	"testing"

	"quaver/api"
	"quaver/bilin"
	"quaver/gauss"
	"quaver/poly"
	"quaver/trial"
)

// given is something that is handed in, and what is wrong with it.
type given struct {
	name           string
	poly           api.Poly
	number         api.Gauss
	long, bad, arg bool
}

// polys are polynomials of all kinds.
func polys() []given {
	long, wrong := trial.Either(trial.Long())[1], trial.Either(trial.Wrong())[3]
	last := func(n int) api.Poly { return append(dense(n), trial.Whole(0, 0)) }
	list := []given{
		{name: "nought"}, {name: "a constant", poly: trial.Reals(5)}, {name: "degree 3", poly: dense(3)}, {name: "degree 24", poly: dense(24)}, {name: "degree 25", poly: dense(25)}, {name: "degree 64", poly: dense(64)},
		{name: "degree 65", poly: dense(65), long: true}, {name: "1001 places", poly: make(api.Poly, 1001), long: true, bad: true}, {name: "65 places and a nought", poly: last(64), long: true, bad: true}, {name: "a nought alone", poly: trial.Reals(0), bad: true}, {name: "a nought at the end", poly: last(2), bad: true}, {name: "64 places and a nought", poly: last(63), bad: true},
		{name: "a long part", poly: api.Poly{trial.Whole(1, 0), long, trial.Whole(1, 0)}, long: true}, {name: "a long part and a nought at the end", poly: api.Poly{long, trial.Whole(0, 0)}, long: true, bad: true}, {name: "a long part and one not in form", poly: api.Poly{wrong, long, trial.Whole(1, 0)}, long: true, bad: true},
	}
	for _, g := range trial.Either(trial.Wrong()) {
		list = append(list, given{name: "a part not in form", poly: api.Poly{trial.Whole(1, 0), g, trial.Whole(1, 0)}, bad: true}, given{name: "a part not in form at the end", poly: api.Poly{trial.Whole(1, 0), g}, bad: true})
	}
	return list
}

// tangents are numbers that may stand for t, and those that may not.
func tangents() []given {
	list := []given{{name: "1", number: rational(one())}, {name: "35/12", number: rational(trial.Frac(35, 12))}, {name: "0", number: rational(trial.Frac(0, 1)), arg: true}, {name: "-1/2", number: rational(trial.Frac(-1, 2)), arg: true}}
	for _, r := range trial.Wrong() {
		list = append(list, given{name: "not in form", number: rational(r), bad: true})
	}
	for _, r := range trial.Long() {
		list = append(list, given{name: "too long", number: rational(r), long: true})
	}
	return list
}

// numbers are numbers that may be handed in, and those that may not.
func numbers() []given {
	list := []given{{name: "1 + 2i", number: trial.Whole(1, 2)}, {name: "-3/4", number: trial.Fraction(-3, 0, 4).Gauss()}}
	for _, g := range trial.Either(trial.Wrong()) {
		list = append(list, given{name: "not in form", number: g, bad: true})
	}
	for _, g := range trial.Either(trial.Long()) {
		list = append(list, given{name: "too long", number: g, long: true})
	}
	return append(list, given{name: "one part of each", number: api.Gauss{Re: trial.Wrong()[0], Im: trial.Long()[0]}, long: true, bad: true})
}

// least is the error with the least number of those that apply.
func least(arg, long, bad, zero bool) api.Errno {
	switch {
	case arg:
		return api.ErrArg
	case long:
		return api.ErrLong
	case bad:
		return api.ErrForm
	case zero:
		return api.ErrZero
	}
	return api.OK
}

func TestErrorsOfMapAndBack(t *testing.T) {
	often := map[api.Errno]int{}
	for name, call := range across() {
		for _, p := range polys() {
			for _, n := range []int{math.MinInt, -1, 0, 2, 3, 4, 23, 24, 25, 63, 64, 65, math.MaxInt} {
				for _, x := range tangents() {
					below := !p.long && !p.bad && n < max(0, len(p.poly)-1)
					want := least(x.arg || below, p.long || x.long || n > api.MaxRoots, p.bad || x.bad, false)
					got, e := call(p.poly, n, x.number.Re)
					often[e]++
					if e != want || e != api.OK && len(got) > 0 {
						t.Errorf("Errors: %s of %s, n %d, t %s: %d places, %d, want %d", name, p.name, n, x.name, len(got), e, want)
					}
				}
			}
		}
	}
	for _, e := range []api.Errno{api.OK, api.ErrArg, api.ErrLong, api.ErrForm} {
		if often[e] < 20 {
			t.Errorf("%d came only %d times", e, often[e])
		}
	}
}

func TestErrorsOfPoint(t *testing.T) {
	for _, x := range tangents() {
		for _, s := range numbers() {
			want := least(x.arg, s.long || x.long, s.bad || x.bad, false)
			if got, e := bilin.Point(s.number, x.number.Re); e != want || e != api.OK && !trial.AlikeGauss(got, api.Gauss{}) {
				t.Errorf("Errors: Point of %s, t %s: %v, %d, want %d", s.name, x.name, got, e, want)
			}
		}
	}
}

func TestErrorsOfTheOthers(t *testing.T) {
	for _, p := range polys() {
		got, e := bilin.Flip(p.poly)
		if want := least(false, p.long, p.bad, false); e != want || e != api.OK && len(got) > 0 {
			t.Errorf("Errors: Flip of %s: %d, want %d", p.name, e, want)
		}
		for _, u := range append(numbers(), given{name: "0"}) {
			zero := u.name == "0"
			if zero {
				u.number = trial.Whole(0, 0)
			}
			got, e := bilin.Spin(p.poly, u.number)
			if want := least(false, p.long || u.long, p.bad || u.bad, zero); e != want || e != api.OK && len(got) > 0 {
				t.Errorf("Errors: Spin of %s by %s: %d, want %d", p.name, u.name, e, want)
			}
		}
		for _, m := range []int{math.MinInt, -1, 0, 1, 2, 3, 21, 22, 64, 65, 1000, math.MaxInt} {
			got, e := bilin.Comb(p.poly, m)
			degree := len(p.poly) - 1
			beyond := !p.long && !p.bad && degree > 0 && (m > api.MaxDegree || degree*m > api.MaxDegree)
			if want := least(m < 1, p.long || beyond, p.bad, false); e != want || e != api.OK && len(got) > 0 {
				t.Errorf("Errors: Comb of %s by %d: %d, want %d", p.name, m, e, want)
			}
		}
	}
}

// standing are numbers that differ from p's coefficients by multiples of a prime.
func standing(p api.Poly) trial.Line {
	var all trial.Line
	for _, c := range p {
		all = append(all, trial.Stand(c))
	}
	return all
}

// stands looks whether an answer, whose numbers are too long for math/big's Rat, is the true one modulo a prime, and in form.
func stands(t *testing.T, name string, got api.Poly, e api.Errno, want trial.Line) {
	t.Helper()
	if e != api.OK || len(got) != len(want) {
		t.Errorf("%s: %d places, %d, want %d", name, len(got), e, len(want))
		return
	}
	for i, c := range standing(got) {
		if !c.Sub(want[i]).Multiple() {
			t.Errorf("%s is not the true answer at %d", name, i)
		}
	}
	if !poly.Form(got) {
		t.Errorf("%s is not in form", name)
	}
}

// longs are numbers above nought of MaxLimbs limbs: whole, small, and over a power of two.
func longs(mix *trial.Mixer) []api.Rat {
	return []api.Rat{
		{Num: mix.Odd(api.MaxLimbs), Den: []uint64{1}}, {Num: []uint64{1}, Den: mix.Odd(api.MaxLimbs)}, {Num: mix.Odd(api.MaxLimbs), Den: append(make([]uint64, api.MaxLimbs-1), 1<<63)},
		{Num: append(make([]uint64, api.MaxLimbs-1), 1<<63), Den: trial.Ones(api.MaxLimbs, math.MaxUint64)},
	}
}

func TestMapAndBackAtTheLimit(t *testing.T) {
	mix := trial.Mixer(251)
	for _, x := range longs(&mix) {
		for _, p := range []api.Poly{trial.Reals(3, 1), dense(2), {api.Gauss{Re: x, Im: trial.Frac(2, 3)}, trial.Whole(1, 0), api.Gauss{Re: trial.Frac(-1, 5), Im: x}}} {
			n := len(p)
			tangent, back := trial.Stand(rational(x)), trial.Stand(rational(api.Rat{Num: x.Den, Den: x.Num}))
			var there, here trial.Line
			for i, c := range standing(p) {
				less, more := trial.Line{whole(-1, 0), whole(1, 0)}, trial.Line{whole(1, 0), whole(1, 0)}
				there = there.Add(trial.Line{c.Mul(number(back, i))}.Mul(power(less, i)).Mul(power(more, n-i)))
				more, less = trial.Line{whole(1, 0), tangent}, trial.Line{whole(1, 0), whole(0, 0).Sub(tangent)}
				here = here.Add(trial.Line{c}.Mul(power(more, i)).Mul(power(less, n-i)))
			}
			got, e := bilin.Map(p, n, x)
			stands(t, "P23.1: Map at MaxLimbs", got, e, there)
			if trial.Longest(got[0]) < api.MaxLimbs {
				t.Errorf("P23.6: Map at MaxLimbs: %d limbs", trial.Longest(got[0]))
			}
			got, e = bilin.Back(p, n, x)
			stands(t, "P23.2: Back at MaxLimbs", got, e, here)
		}
	}
}

func TestAllDegreesOfALongTangent(t *testing.T) {
	// Of the degree 12 as of 24 every other coefficient of the last power is nought.
	mix := trial.Mixer(252)
	x := api.Rat{Num: mix.Odd(160), Den: []uint64{7}}
	for _, degree := range []int{1, 12, 24} {
		p := dense(degree)
		back := trial.Stand(rational(api.Rat{Num: x.Den, Den: x.Num}))
		var want trial.Line
		for i, c := range standing(p) {
			less, more := trial.Line{whole(-1, 0), whole(1, 0)}, trial.Line{whole(1, 0), whole(1, 0)}
			want = want.Add(trial.Line{c.Mul(number(back, i))}.Mul(power(less, i)).Mul(power(more, 24-i)))
		}
		got, e := bilin.Map(p, 24, x)
		stands(t, "P23.1: Map of a long tangent", got, e, want)
		again, e := bilin.Back(got, 24, x)
		is(t, "P23.5: Back(Map) of a long tangent", again, e, times(p, whole(1<<24, 0)))
	}
}

func TestPointAtTheLimit(t *testing.T) {
	mix := trial.Mixer(253)
	list := longs(&mix)
	for i, x := range list {
		r := list[(i+1)%len(list)]
		s := api.Gauss{Re: api.Rat{Neg: i%2 == 0, Num: r.Num, Den: r.Den}, Im: list[(i+2)%len(list)]}
		got, e := bilin.Point(s, x)
		ts := trial.Stand(rational(x)).Mul(trial.Stand(s))
		// z (1 - ts) = 1 + ts
		if e != api.OK || !trial.Stand(got).Mul(whole(1, 0).Sub(ts)).Sub(whole(1, 0).Add(ts)).Multiple() {
			t.Errorf("P23.3: Point at MaxLimbs is not the true one, %d", e)
		}
		if !gauss.Form(got) || trial.Longest(got) <= api.MaxLimbs {
			t.Errorf("P23.3, P23.6: Point at MaxLimbs is not in form, or short: %d limbs", trial.Longest(got))
		}
		if got, e := bilin.Point(rational(api.Rat{Num: x.Den, Den: x.Num}), x); e != api.ErrZero || !trial.AlikeGauss(got, api.Gauss{}) {
			t.Errorf("Errors: Point of 1/t at MaxLimbs: %d", e)
		}
		if got, e := bilin.Point(rational(api.Rat{Neg: true, Num: x.Den, Den: x.Num}), x); e != api.OK || !trial.AlikeGauss(got, trial.Whole(0, 0)) {
			t.Errorf("P23.3: Point of -1/t at MaxLimbs: %d", e)
		}
	}
}

func TestTheOthersAtTheLimit(t *testing.T) {
	mix := trial.Mixer(254)
	list := longs(&mix)
	for i, x := range list[1:3] {
		u := api.Gauss{Re: trial.Frac(-1, 3), Im: x}
		p := api.Poly{trial.Whole(1, 2), trial.Fraction(2, 1, 3).Gauss(), {Re: list[(i+2)%len(list)], Im: trial.Frac(0, 1)}}
		got, e := bilin.Spin(p, u)
		if e != api.OK || len(got) != len(p) {
			t.Fatalf("P23.4: Spin at MaxLimbs: %d places, %d", len(got), e)
		}
		for j, c := range standing(got) {
			if !c.Mul(number(trial.Stand(u), j)).Sub(trial.Stand(p[j])).Multiple() || !gauss.Form(got[j]) {
				t.Errorf("P23.4: Spin at MaxLimbs is not the true one at %d", j)
			}
		}
		p = api.Poly{{Re: x, Im: trial.Frac(0, 1)}, {Re: trial.Frac(0, 1), Im: x}}
		minus := api.Rat{Neg: true, Num: x.Num, Den: x.Den}
		got, e = bilin.Flip(p)
		if e != api.OK || !trial.AlikePoly(got, api.Poly{p[0], {Re: trial.Frac(0, 1), Im: minus}}) {
			t.Errorf("P23.4: Flip at MaxLimbs: %d", e)
		}
		got, e = bilin.Comb(p, 2)
		if e != api.OK || !trial.AlikePoly(got, slices.Insert(slices.Clone(p), 1, trial.Whole(0, 0))) {
			t.Errorf("P23.4: Comb at MaxLimbs: %d", e)
		}
	}
}
