package refl_test

import (
	"math/big"
	"slices"
	"testing"

	"quaver/api"
	"quaver/refl"
	"quaver/trial"
)

// checkDown: does Down answer what the words of P12.1 say, also where the polynomial is multiplied with a number? And what follows of it?
func checkDown(t *testing.T, p api.Poly) {
	t.Helper()
	want, ok := numbers(p)
	for _, c := range []trial.Complex{trial.Fraction(1, 0, 1), trial.Fraction(-2, 0, 3), trial.Fraction(0, 7, 1), trial.Fraction(5, -3, 4)} {
		q := trial.Multiplied(p, api.Poly{c.Gauss()})
		got, e := refl.Down(q)
		told, f := refl.Tells(q)
		if told != (ok && within(want)) || f != api.OK {
			t.Fatalf("P12.4: Tells(%v) = %v, %d", q, told, f)
		}
		if !ok {
			if e != api.ErrUnstable || len(got) > 0 {
				t.Fatalf("P12.1: Down(%v) = %v, %d, want ErrUnstable", q, got, e)
			}
			continue
		}
		if e != api.OK || !alike(got, want) {
			t.Fatalf("P12.1: Down(%v) = %v, %d, want %v", q, got, e, want)
		}
		if back, e := refl.Up(got); e != api.OK || !trial.AlikePoly(back, monic(p)) {
			t.Fatalf("P12.3: Up(Down(%v)) = %v, %d", q, back, e)
		}
	}
}

func TestDownExamples(t *testing.T) {
	for _, c := range []struct {
		p     api.Poly
		want  []trial.Complex
		e     api.Errno
		tells bool
	}{
		{api.Poly{trial.Fraction(1, 0, 2).Gauss(), trial.Whole(-1, 0), trial.Whole(1, 0)}, []trial.Complex{trial.Fraction(-2, 0, 3), trial.Fraction(1, 0, 2)}, api.OK, true},
		{trial.Lines(times(trial.Fraction(1, 0, 2), 3)...), []trial.Complex{trial.Fraction(-10, 0, 11), trial.Fraction(4, 0, 7), trial.Fraction(-1, 0, 8)}, api.OK, true},
		{trial.Lines(trial.Fraction(0, 1, 2)), []trial.Complex{trial.Fraction(0, -1, 2)}, api.OK, true},
		{api.Poly{trial.Whole(0, -1), trial.Whole(2, 0)}, []trial.Complex{trial.Fraction(0, -1, 2)}, api.OK, true},
		{api.Poly{trial.Whole(1, 0), trial.Whole(0, 2)}, []trial.Complex{trial.Fraction(0, -1, 2)}, api.OK, true},
		{trial.Reals(1, 2, 4), []trial.Complex{trial.Fraction(2, 0, 5), trial.Fraction(1, 0, 4)}, api.OK, true},
		{trial.Reals(1, 0, 1), nil, api.ErrUnstable, false},
		{trial.Reals(-2, 1), []trial.Complex{trial.Fraction(-2, 0, 1)}, api.OK, false},
		{trial.Reals(-1, 3, 1), nil, api.ErrUnstable, false},
		{trial.Reals(7), nil, api.OK, true},
		{trial.Reals(-7), nil, api.OK, true},
		{api.Poly{trial.Whole(0, 1)}, nil, api.OK, true},
		{nil, nil, api.ErrZero, false},
		{trial.Reals(1, 1, 1), nil, api.ErrUnstable, false},
		{trial.Reals(0, 0, 0, -3), times(trial.Fraction(0, 0, 1), 3), api.OK, true},
		{trial.Reals(4, 0, 1), []trial.Complex{trial.Fraction(0, 0, 1), trial.Fraction(4, 0, 1)}, api.OK, false},
	} {
		if got, e := refl.Down(c.p); e != c.e || !alike(got, c.want) {
			t.Errorf("P12.1: Down(%v) = %v, %d, want %v, %d", c.p, got, e, c.want, c.e)
		}
		if c.e != api.ErrZero {
			if yes, e := refl.Tells(c.p); yes != c.tells || e != api.OK {
				t.Errorf("P12.4: Tells(%v) = %v, %d", c.p, yes, e)
			}
			checkDown(t, c.p)
		}
	}
}

func TestDown(t *testing.T) {
	mix := trial.Mixer(1)
	for round := range 400 {
		p := mix.Poly(8, 1+round%2)
		switch round % 5 {
		case 1:
			p = trial.Lines(mix.Places(mix.Below(8))...)
		case 2: // small numbers, of which many have the magnitude 1 on their way
			p = nil
			for range 2 + mix.Below(6) {
				p = append(p, trial.Whole(int64(mix.Below(5))-2, int64(mix.Below(9)/4)))
			}
			p = trial.ValuePoly(p).Poly()
		case 3: // every other coefficient is nought, or two of three
			q := p
			p = nil
			for _, c := range q {
				p = append(p, c, trial.Whole(0, 0))
				if round%2 == 0 {
					p = append(p, trial.Whole(0, 0))
				}
			}
			p = trial.ValuePoly(p).Poly()
		}
		if len(p) > 0 {
			checkDown(t, p)
		}
	}
}

func TestDownOfMany(t *testing.T) {
	mix := trial.Mixer(2)
	for _, n := range []int{api.MaxRoots, api.MaxRoots - 1} {
		for kind := range 3 {
			var p api.Poly
			for i := range n {
				c := trial.Whole(int64(mix.Below(9)), int64(mix.Below(9)))
				if kind == 1 && i%3 > 0 {
					c = trial.Whole(0, 0)
				}
				p = append(p, c)
			}
			checkDown(t, append(p, trial.Whole(int64(1+50*(kind%2)), int64(100*(kind/2)))))
		}
	}
	for _, p := range []api.Poly{trial.Sparse(24, 2, -1), trial.Sparse(24, 3, 4), trial.Sparse(24, 0, 1), trial.Lines(times(trial.Fraction(-1, 1, 2), 24)...), trial.Lines(times(trial.Fraction(0, 0, 1), 24)...)} {
		checkDown(t, p)
	}
}

func TestMagnitudesOf1(t *testing.T) {
	some := []trial.Complex{trial.Fraction(1, 1, 2), trial.Fraction(-2, 0, 3), trial.Fraction(0, 0, 1), trial.Fraction(3, 5, 1), trial.Fraction(0, -1, 7)}
	for place := range some {
		for _, unit := range units() {
			list := slices.Clone(some)
			list[place] = unit
			p, e := refl.Up(gausses(list))
			if e != api.OK || !trial.AlikePoly(p, grown(list)) {
				t.Fatalf("P12.2: Up(%v) = %v, %d", list, p, e)
			}
			if got, e := refl.Down(p); e != api.ErrUnstable || len(got) > 0 {
				t.Errorf("P12.3: Down(Up(%v)) = %v, %d, want ErrUnstable", list, got, e)
			}
			if got, e := refl.Near(p); e != api.ErrUnstable || len(got) > 0 {
				t.Errorf("P12.5: Near(Up(%v)) = %v, %d, want ErrUnstable", list, got, e)
			}
			if yes, e := refl.Tells(p); yes || e != api.OK {
				t.Errorf("P12.4: Tells(Up(%v)) = %v, %d", list, yes, e)
			}
			// Next to 1, on either side, it goes on.
			for _, n := range []int64{-1, 1} {
				list[place] = unit.Stretched(trial.Beside1(n))
				p := grown(list)
				if got, e := refl.Down(p); e != api.OK || !alike(got, list) {
					t.Errorf("P12.3: Down(Up(%v)) = %v, %d", list, got, e)
				}
				list[3] = trial.Fraction(3, 5, 7)
				if yes, e := refl.Tells(grown(list)); yes != within(list) || e != api.OK {
					t.Errorf("P12.4: Tells(Up(%v)) = %v, %d", list, yes, e)
				}
				list = slices.Clone(some)
			}
		}
	}
}

func TestUpExamples(t *testing.T) {
	for _, c := range []struct {
		list []trial.Complex
		want api.Poly
	}{
		{nil, trial.Reals(1)},
		{[]trial.Complex{trial.Fraction(0, -1, 2)}, trial.Lines(trial.Fraction(0, 1, 2))},
		{[]trial.Complex{trial.Fraction(1, 0, 2), trial.Fraction(1, 0, 1)}, trial.Reals(1, 1, 1)},
		{[]trial.Complex{trial.Fraction(0, 0, 1)}, trial.Reals(0, 1)},
		{times(trial.Fraction(0, 0, 1), 24), trial.Sparse(24, 0, 0)},
		{append(times(trial.Fraction(0, 0, 1), 23), trial.Fraction(5, -6, 1)), trial.Sparse(24, 5, -6)},
		{[]trial.Complex{trial.Fraction(0, 2, 1), trial.Fraction(0, 3, 1)}, api.Poly{trial.Whole(0, 3), trial.Whole(6, 2), trial.Whole(1, 0)}},
	} {
		if p, e := refl.Up(gausses(c.list)); e != api.OK || !trial.AlikePoly(p, c.want) {
			t.Errorf("P12.2: Up(%v) = %v, %d, want %v", c.list, p, e, c.want)
		}
	}
	if p, e := refl.Up([]api.Gauss{}); e != api.OK || !trial.AlikePoly(p, trial.Reals(1)) {
		t.Errorf("P12.2: Up of an empty list = %v, %d", p, e)
	}
}

func TestUp(t *testing.T) {
	mix := trial.Mixer(3)
	for round := range 200 {
		list := make([]trial.Complex, mix.Below(8))
		if round%50 == 0 {
			list = make([]trial.Complex, api.MaxRoots)
		}
		one := false
		for i := range list {
			switch mix.Below(12) {
			case 0:
				list[i] = units()[mix.Below(len(units()))]
			case 1, 2:
				list[i] = trial.Fraction(0, 0, 1)
			default:
				list[i] = trial.ValueGauss(mix.Gauss(1))
			}
			one = one || list[i].Norm().Cmp(big.NewRat(1, 1)) == 0
		}
		p, e := refl.Up(gausses(list))
		if e != api.OK || !trial.AlikePoly(p, grown(list)) {
			t.Fatalf("P12.2: Up(%v) = %v, %d", list, p, e)
		}
		got, e := refl.Down(p)
		if one && e != api.ErrUnstable || !one && (e != api.OK || !alike(got, list)) {
			t.Fatalf("P12.3: Down(Up(%v)) = %v, %d", list, got, e)
		}
		if yes, e := refl.Tells(p); yes != within(list) || e != api.OK {
			t.Fatalf("P12.4: Tells(Up(%v)) = %v, %d", list, yes, e)
		}
	}
}
