package schur_test

import (
	"math/big"
	"slices"
	"testing"

	"quaver/api"
	"quaver/poly"
	"quaver/schur"
	"quaver/trial"
)

// half is a number that is not whole.
func half() *big.Rat { return big.NewRat(1, 2) }

func TestCountExamples(t *testing.T) {
	pair := trial.Lines(trial.Fraction(1, 0, 2), trial.Fraction(2, 0, 1))
	i := trial.Whole(0, 1)
	for _, c := range []struct {
		p    api.Poly
		want [3]int
	}{
		{trial.Reals(-1, 0, 1), [3]int{0, 2, 0}}, {trial.Reals(0, 0, 1), [3]int{2, 0, 0}}, {pair, [3]int{1, 0, 1}}, {trial.Reals(1, 0, 0, 0, 2), [3]int{4, 0, 0}},
		{trial.Reals(5), [3]int{}}, {trial.Reals(-1), [3]int{}}, {api.Poly{i}, [3]int{}}, {api.Poly{{Re: trial.Sum(trial.Up(-9000)), Im: trial.Sum(trial.Down(9000))}}, [3]int{}},
		{trial.Reals(1, 2, 1), [3]int{0, 2, 0}}, {trial.Multiplied(trial.Reals(1, 1, 1), pair), [3]int{1, 2, 1}}, {api.Poly{i, trial.Whole(1, 0)}, [3]int{0, 1, 0}}, {api.Poly{trial.Whole(0, 3), trial.Whole(1, 0)}, [3]int{0, 0, 1}},
		// Numbers on the matrix' diagonal that are all noughts: z^2 + 3z - 1, z^4 + 3z^2 - 1, z^3 + 3iz + 1.
		{trial.Reals(-1, 3, 1), [3]int{1, 0, 1}}, {trial.Reals(-1, 0, 3, 0, 1), [3]int{2, 0, 2}}, {api.Poly{trial.Whole(1, 0), trial.Whole(0, 3), trial.Whole(0, 0), trial.Whole(1, 0)}, [3]int{1, 0, 2}},
		// Of magnitudes just as the coefficients' sizes say.
		{trial.Reals(3, 0, 0, 0, 0, 2), [3]int{0, 0, 5}}, {trial.Sparse(24, 0, 2), [3]int{0, 0, 24}}, {trial.Sparse(24, 0, 1), [3]int{0, 24, 0}}, {trial.Sparse(24, -1, 0), [3]int{0, 24, 0}}, {trial.Sparse(23, 3, -4), [3]int{0, 0, 23}},
		{trial.Reals(slices.Repeat([]int64{1}, api.MaxRoots+1)...), [3]int{0, 24, 0}},
		{trial.Reals(slices.Repeat([]int64{-7}, api.MaxRoots+1)...), [3]int{0, 24, 0}},
	} {
		if got, e := count(c.p); got != c.want || e != api.OK {
			t.Errorf("P10.1: Count(%v) = %v, %d, want %v", c.p, got, e, c.want)
		}
		if yes, e := schur.Stable(c.p); yes != (c.want[0] == len(c.p)-1) || e != api.OK {
			t.Errorf("P10.2: Stable(%v) = %v, %d", c.p, yes, e)
		}
	}
}

func TestStableExamples(t *testing.T) {
	for _, c := range []struct {
		p    api.Poly
		want bool
	}{
		{trial.Reals(-1, 2), true}, {trial.Reals(-1, 1), false}, {trial.Reals(7), true}, {trial.Reals(0, 0, 0, -3), true}, {trial.Reals(-2, 1), false},
		{trial.Lines(trial.Fraction(3, 4, 5)), false}, {trial.Lines(plain(trial.Beside1(-1))), true}, {trial.Lines(plain(trial.Beside1(1))), false},
		{trial.Lines(trial.Fraction(0, 0, 1), trial.Fraction(1, 1, 2), trial.Fraction(2, 0, 1)), false}, {trial.Lines(trial.Fraction(0, 0, 1), trial.Fraction(1, 1, 2), trial.Fraction(1, 1, 1)), false}, {trial.Lines(times(trial.Fraction(-9, 0, 10), 24)...), true},
	} {
		if yes, e := schur.Stable(c.p); yes != c.want || e != api.OK {
			t.Errorf("P10.2: Stable(%v) = %v, %d", c.p, yes, e)
		}
	}
}

// edges are lists of roots that the document speaks of.
func edges() [][]trial.Complex {
	one, nought := trial.Fraction(1, 0, 1), trial.Fraction(0, 0, 1)
	point, other := trial.Unit(1, 2), trial.Unit(-2, 3)
	lists := [][]trial.Complex{
		{nought}, times(nought, 24), times(one, 24), times(trial.Fraction(-1, 0, 1), 24), times(trial.Unit(3, 4), 9), times(trial.Fraction(1, 2, 3), 7), times(trial.Fraction(1, 2, 1), 7),
		// Pairs of mirror images, once and several times, beside points of the circle and noughts.
		{point.Stretched(half()), point.Stretched(half()).Mirror()},
		append(times(point.Stretched(half()), 3), times(point.Stretched(half()).Mirror(), 3)...),
		append(times(point.Stretched(half()), 2), times(point.Stretched(half()).Mirror(), 3)...),
		append(times(point.Stretched(half()), 5), point.Stretched(half()).Mirror(), point, point, nought),
		{trial.Fraction(1, 1, 3), trial.Fraction(1, 1, 3).Mirror(), trial.Fraction(2, 0, 1), trial.Fraction(1, 0, 2), one, one, one, nought, nought, trial.Fraction(0, 5, 1)},
		// Conjugates and opposites are no mirror images.
		{trial.Fraction(1, 0, 2), trial.Fraction(-2, 0, 1), trial.Fraction(0, 1, 2), trial.Fraction(0, -2, 1)},
	}
	for _, z := range []trial.Complex{one, trial.Fraction(-1, 0, 1), trial.Fraction(0, 1, 1), point, other} {
		in, out := z.Stretched(trial.Beside1(-1)), z.Stretched(trial.Beside1(1))
		lists = append(lists,
			[]trial.Complex{in}, []trial.Complex{out}, []trial.Complex{in, z, out}, []trial.Complex{in, in.Mirror()}, []trial.Complex{in, in, in.Mirror(), out}, []trial.Complex{out, out, out, z, z},
			append(times(in, 4), times(out, 3)...), []trial.Complex{in, out.Conj(), trial.Fraction(1, 0, 7), trial.Fraction(7, 1, 1)})
	}
	return lists
}

func TestCountEdges(t *testing.T) {
	for _, list := range edges() {
		p, want := trial.Lines(list...), tally(list, big.NewRat(1, 1))
		if got, e := count(p); got != want || e != api.OK {
			t.Errorf("P10.1: Count of the roots %v: %v, %d, want %v", list, got, e, want)
		}
		// No factor changes it.
		for _, c := range []trial.Complex{trial.Fraction(-3, 0, 7), trial.Fraction(0, 2, 1), {Re: trial.Up(-700), Im: trial.Up(700)}} {
			q := trial.Multiplied(p, api.Poly{c.Gauss()})
			if got, e := count(q); got != want || e != api.OK {
				t.Errorf("P10.1: Count of the roots %v, times %v: %v, %d, want %v", list, c, got, e, want)
			}
		}
	}
}

func TestCountOfRoots(t *testing.T) {
	mix := trial.Mixer(1)
	for round := range 400 {
		most := 8
		if round%40 == 0 {
			most = api.MaxRoots
		}
		list := mix.Places(mix.Below(most + 1))
		p, want := trial.Lines(list...), tally(list, big.NewRat(1, 1))
		if got, e := count(p); got != want || e != api.OK {
			t.Fatalf("P10.1: Count of the roots %v: %v, %d, want %v", list, got, e, want)
		}
		if yes, e := schur.Stable(p); yes != (want[0] == len(list)) || e != api.OK {
			t.Fatalf("P10.2: Stable of the roots %v: %v, %d", list, yes, e)
		}
	}
}

func TestCountOfFloats(t *testing.T) {
	mix := trial.Mixer(2)
	for range 12 {
		list := make([]trial.Complex, api.MaxRoots)
		for i := range list {
			list[i] = trial.Complex{Re: trial.True(mix.Middle()), Im: trial.True(mix.Middle())}
		}
		want := tally(list, big.NewRat(1, 1))
		if got, e := count(trial.Lines(list...)); got != want || e != api.OK {
			t.Errorf("P10.1: Count of 24 roots: %v, %d, want %v", got, e, want)
		}
	}
}

func TestAllBesideTheCircle(t *testing.T) {
	// The roots crowd about one point: what tells them is far behind the point.
	var list []trial.Complex
	for n := range int64(13) {
		list = append(list, trial.Unit(1, 2).Stretched(trial.Beside1(n-6)))
	}
	if got, e := count(trial.Lines(list...)); got != [3]int{6, 1, 6} || e != api.OK {
		t.Errorf("P10.4: Count of 13 roots beside one point: %v, %d", got, e)
	}
}

// unknown is a polynomial that no roots are known of.
func unknown(mix *trial.Mixer, places int) api.Poly {
	p := mix.Poly(places, 2)
	for len(p) == 0 {
		p = mix.Poly(places, 2)
	}
	return p
}

func TestCountOfProducts(t *testing.T) {
	mix := trial.Mixer(3)
	for range 150 {
		p, q := unknown(&mix, 8), unknown(&mix, 8)
		if mix.Below(3) == 0 {
			q, _ = poly.Star(p, len(p)-1) // roots in common with mirror images
		}
		a, e := count(p)
		b, f := count(q)
		both, g := count(trial.Multiplied(p, q))
		if e != api.OK || f != api.OK || g != api.OK || both != [3]int{a[0] + b[0], a[1] + b[1], a[2] + b[2]} {
			t.Fatalf("P10.4: Count of %v and %v: %v and %v, of their product %v", p, q, a, b, both)
		}
		if a[0]+a[1]+a[2] != len(p)-1 {
			t.Fatalf("P10.1: Count(%v) = %v", p, a)
		}
	}
}

func TestCountOfStar(t *testing.T) {
	mix := trial.Mixer(4)
	for range 150 {
		p := unknown(&mix, 10)
		if trial.Nought(p[0]) {
			continue
		}
		star, _ := poly.Star(p, len(p)-1)
		a, e := count(p)
		b, f := count(star)
		if e != api.OK || f != api.OK || b != [3]int{a[2], a[1], a[0]} {
			t.Fatalf("P10.4: Count(%v) = %v, of its Star %v", p, a, b)
		}
	}
}
