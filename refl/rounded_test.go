package refl

import (
	"math/big"
	"testing"

	"quaver/exact"
	"quaver/ring"
	"quaver/trial"
	"quaver/whole"
)

func TestRoundedIsSureOfTheTruth(t *testing.T) {
	mix := trial.Mixer(9)
	sures := [2]int{}
	for round := range 1500 {
		var roots []trial.Complex
		for range 1 + mix.Below(7) {
			z := trial.Unit(int64(mix.Below(9)-4), int64(1+mix.Below(4)))
			size := big.NewRat(int64(mix.Below(64)), 64)
			if mix.Below(8) == round%8 { // near the circle, on either side
				size = new(big.Rat).Add(big.NewRat(1, 1), new(big.Rat).Mul(trial.Up(-2-mix.Below(40)), big.NewRat(int64(mix.Below(3)-1), 1)))
			}
			roots = append(roots, z.Stretched(size))
		}
		want := true
		for _, z := range roots {
			want = want && z.Norm().Cmp(big.NewRat(1, 1)) < 0
		}
		p := ring.Read(trial.Lines(roots...))
		for bits := 4; bits < 400; bits += 1 + bits/3 {
			told, sure := rounded(whole.Round(p, bits))
			if told && !sure || sure && told != want {
				t.Fatalf("P12.4: roots %v with %d bits: %v, %v", roots, bits, told, sure)
			}
			if sure && want {
				sures[1]++
			} else if sure {
				sures[0]++
			}
		}
	}
	if sures[0] < 1000 || sures[1] < 1000 {
		t.Errorf("only %d are sure", sures)
	}
}

func TestLaddersKnowWhatToLeaveOut(t *testing.T) {
	// Of n places with b bits no rung's numbers have more than some 2 n b: each step divides by what is known to be in common.
	mix := trial.Mixer(10)
	const bits = 53
	for range 20 {
		var p ring.Poly
		for range 20 {
			p = append(p, exact.Complex{Re: exact.Int(int64(mix.Bits() >> (64 - bits))), Im: exact.Int(-int64(mix.Bits() >> (64 - bits)))})
		}
		l := start(p)
		for i := 1; len(l.rung) > 1; i++ {
			over := l.over
			next := l.rung.under()
			if _, whole := next.cut(over); !whole {
				t.Fatalf("P12.1: the step %d of %v does not divide", i, p)
			}
			l.step()
			if n := whole.Longest(l.rung); n > 2*i*(bits+5) {
				t.Fatalf("P12.1: the rung %d of %v has %d bits", i, p, n)
			}
		}
	}
}

func TestLaddersOfNoughts(t *testing.T) {
	// z^24 + z^12 + a great number: but for the first step there is 1 alone over one factor of the gap.
	const bits = 3000
	p := ring.Read(trial.Sparse(24, 0, 0))
	p[12], p[0] = exact.Real(1), exact.Binary(false, 1, bits).Complex()
	l := start(p)
	for len(l.rung) > 1 {
		l.shorten(l.rung.at(0))
		l.step()
		if n := whole.Longest(l.rung); n > 2*bits+2 {
			t.Fatalf("P12.1: the rung of degree %d has %d bits", len(l.rung)-1, n)
		}
	}
}
