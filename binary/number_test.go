package binary_test

import (
	"math/big"
	"testing"

	"quaver/api"
	"quaver/binary"
	"quaver/trial"
)

// pair is a number of the program beside the same by rational numbers.
type pair struct {
	got  binary.Number
	want trial.Complex
}

func (p pair) check(t *testing.T, name string) {
	t.Helper()
	if got, want := p.got.Gauss(), p.want.Gauss(); !trial.AlikeGauss(got, want) {
		t.Fatalf("%s = %v, want %v", name, got, want)
	}
}

func of(a complex128) pair {
	return pair{binary.Of(a), trial.Exactly(a)}
}

func TestOf(t *testing.T) {
	mix := trial.Mixer(1)
	list := append(mix.FiniteNumbers(500), trial.Noughts()...)
	for _, x := range []float64{trial.Least, trial.LeastNormal, 0.75, 1, 6, 0x1p60, trial.Greatest} {
		for _, y := range []float64{0, 0.5, trial.Least, trial.Greatest} {
			list = append(list, trial.Signs(x, y)...)
			list = append(list, trial.Signs(y, x)...)
		}
	}
	for _, a := range list {
		of(a).check(t, "Of")
	}
	pair{binary.Nought(), trial.Fraction(0, 0, 1)}.check(t, "Nought")
}

func TestSumsAndProducts(t *testing.T) {
	mix := trial.Mixer(2)
	for round := range 300 {
		made := []pair{of(0)}
		for _, a := range append(mix.FiniteNumbers(2), mix.Few(2)...) {
			made = append(made, of(a))
		}
		for range 4 + round%3 {
			a, b := made[mix.Below(len(made))], made[mix.Below(len(made))]
			was, other := a.got.Gauss(), b.got.Gauss()
			sum := pair{a.got.Add(b.got), a.want.Add(b.want)}
			difference := pair{a.got.Sub(b.got), a.want.Sub(b.want)}
			product := pair{a.got.Mul(b.got), a.want.Mul(b.want)}
			conjugate := pair{a.got.Conj(), a.want.Conj()}
			sum.check(t, "Add")
			difference.check(t, "Sub")
			product.check(t, "Mul")
			conjugate.check(t, "Conj")
			if !trial.AlikeGauss(a.got.Gauss(), was) || !trial.AlikeGauss(b.got.Gauss(), other) {
				t.Fatal("a step changed its numbers")
			}
			made = append(made, sum, difference, product, conjugate)
		}
	}
}

// wholes are whole numbers of both signs, some with many noughts at the end.
func wholes() []*big.Int {
	list := []*big.Int{big.NewInt(0), big.NewInt(1), big.NewInt(-1), big.NewInt(12), big.NewInt(-35)}
	for _, x := range []int64{1, -1, 3, -77} {
		list = append(list, new(big.Int).Lsh(big.NewInt(x), 200), new(big.Int).Sub(new(big.Int).Lsh(big.NewInt(x), 90), big.NewInt(5)))
	}
	return list
}

func TestWhole(t *testing.T) {
	for _, re := range wholes() {
		for _, im := range wholes() {
			number := pair{binary.Whole(re, im), trial.Complex{Re: new(big.Rat).SetInt(re), Im: new(big.Rat).SetInt(im)}}
			number.check(t, "Whole")
			odd := of(complex(0.75, -0x1p-70))
			pair{number.got.Mul(odd.got), number.want.Mul(odd.want)}.check(t, "Mul of a whole number")
			pair{number.got.Add(odd.got), number.want.Add(odd.want)}.check(t, "Add of a whole number")
		}
	}
}

func TestIsNought(t *testing.T) {
	least := of(trial.Least)
	for _, a := range []binary.Number{binary.Nought(), binary.Of(complex(trial.Turned(0), 0)), binary.Whole(new(big.Int), new(big.Int)), least.got.Sub(least.got), least.got.Mul(binary.Nought())} {
		if !a.IsNought() {
			t.Errorf("%v is nought", a.Gauss())
		}
	}
	for _, a := range []complex128{1, -1, complex(0, trial.Least), trial.Least, complex(-trial.Greatest, 0), complex(0, -3)} {
		if binary.Of(a).IsNought() {
			t.Errorf("%v is not nought", a)
		}
	}
}

func TestQuo(t *testing.T) {
	mix := trial.Mixer(3)
	check := func(a, b pair) {
		t.Helper()
		was, other := a.got.Gauss(), b.got.Gauss()
		got, want := a.got.Quo(b.got).Gauss(), a.want.Quo(b.want).Gauss()
		if !trial.AlikeGauss(got, want) {
			t.Fatalf("%v over %v = %v, want %v", was, other, got, want)
		}
		if !trial.AlikeGauss(a.got.Gauss(), was) || !trial.AlikeGauss(b.got.Gauss(), other) {
			t.Fatal("Quo changed its numbers")
		}
	}
	for range 100 {
		list := append(mix.FiniteNumbers(2), mix.Few(2)...)
		for _, a := range list[:4:4] {
			list = append(list, complex(real(a), 0), complex(0, imag(a)), complex(0, -real(a)))
		}
		for _, a := range list {
			for _, b := range list {
				if b != 0 {
					check(of(a), of(b))
					check(pair{of(a).got.Mul(of(b).got), of(a).want.Mul(of(b).want)}, of(b))
				}
			}
		}
	}
	one := binary.Of(1)
	if got := one.Sub(one).Quo(binary.Of(trial.Greatest)).Gauss(); !trial.AlikeGauss(got, trial.Whole(0, 0)) {
		t.Errorf("0 over the greatest number is %v", got)
	}
	third, i := api.Rat{Num: []uint64{1}, Den: []uint64{3}}, binary.Whole(new(big.Int), big.NewInt(-3))
	if got := one.Quo(i).Gauss(); !trial.AlikeGauss(got, api.Gauss{Re: trial.Frac(0, 1), Im: third}) {
		t.Errorf("1 over -3i is %v", got)
	}
}

func TestNoughts(t *testing.T) {
	// What cancels, or is multiplied by nought, is nought, whatever its power was.
	for _, a := range []complex128{trial.Least, trial.Greatest, complex(trial.Least, -trial.Greatest), complex(0, 3)} {
		x, one := of(a), of(complex(1, -1))
		gone := pair{x.got.Sub(x.got), trial.Fraction(0, 0, 1)}
		product := pair{x.got.Mul(binary.Nought()), gone.want}
		for _, nought := range []pair{gone, product, {gone.got.Mul(x.got), gone.want}, {gone.got.Conj(), gone.want}} {
			nought.check(t, "a nought")
			pair{nought.got.Add(one.got), one.want}.check(t, "0 + 1 - i")
			pair{one.got.Add(nought.got), one.want}.check(t, "1 - i + 0")
			pair{one.got.Sub(nought.got), one.want}.check(t, "1 - i - 0")
			pair{nought.got.Sub(one.got), gone.want.Sub(one.want)}.check(t, "0 - (1 - i)")
		}
	}
}

func TestNewMemory(t *testing.T) {
	for _, a := range []complex128{3, complex(0, 1), complex(0.25, 0.25), complex(0x1p100, -0x1p100)} {
		number := binary.Of(a)
		fault := trial.Touched(func([]trial.Numbers) []trial.Numbers {
			return []trial.Numbers{{number.Gauss(), number.Gauss()}}
		})
		if fault != "" {
			t.Errorf("Gauss of %v: %s", a, fault)
		}
	}
}
