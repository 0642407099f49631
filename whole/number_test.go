package whole_test

import (
	"math/big"
	"testing"

	"quaver/exact"
	"quaver/trial"
	"quaver/whole"
)

// read is these numbers as the program's own.
func read(list []trial.Complex) []exact.Complex {
	var made []exact.Complex
	for _, z := range list {
		made = append(made, exact.ReadComplex(z.Gauss()))
	}
	return made
}

func TestRound(t *testing.T) {
	mix := trial.Mixer(3)
	for range 500 {
		list := make([]trial.Complex, 1+mix.Below(4))
		some := false
		for i := range list {
			list[i] = trial.ValueGauss(mix.Gauss(1 + mix.Below(4)))
			some = some || !list[i].Nought()
		}
		if !some {
			list[0] = trial.Fraction(-1, 0, 3)
		}
		bits := 8 + mix.Below(300)
		checkRounded(t, list, whole.Round(read(list), bits), bits)
	}
	for _, z := range whole.Round(read([]trial.Complex{trial.Fraction(0, 0, 1), trial.Fraction(0, 0, 1)}), 100) {
		if z.Re.Sign() != 0 || z.Im.Sign() != 0 {
			t.Errorf("noughts rounded are %v", z)
		}
	}
	if list := whole.Round(nil, 100); len(list) != 0 {
		t.Errorf("no numbers rounded are %v", list)
	}
}

// checkRounded: is there one power of two for all parts, which leaves none off by 1 and the greatest one of nearly so many bits?
func checkRounded(t *testing.T, list []trial.Complex, rounded []whole.Number, bits int) {
	t.Helper()
	var values []*big.Rat
	var parts []*big.Int
	for i, z := range list {
		values = append(values, z.Re, z.Im)
		parts = append(parts, rounded[i].Re, rounded[i].Im)
	}
	longest, place := 0, 0
	for i, n := range parts {
		if n.CmpAbs(new(big.Int).Lsh(big.NewInt(1), uint(bits))) > 0 {
			t.Fatalf("%v rounded to %d bits has %d", list, bits, n.BitLen())
		}
		if n.BitLen() > longest {
			longest, place = n.BitLen(), i
		}
	}
	if longest < bits-2 {
		t.Fatalf("%v rounded to %d bits has %d", list, bits, longest)
	}
	// The power of two, told by the longest part.
	ratio := new(big.Rat).Quo(new(big.Rat).SetInt(parts[place]), values[place])
	power := ratio.Num().BitLen() - ratio.Denom().BitLen()
	for p := power - 1; p <= power+1; p++ {
		fits := true
		for i, x := range values {
			off := new(big.Rat).Mul(x, trial.Up(p))
			off.Sub(off, new(big.Rat).SetInt(parts[i]))
			fits = fits && off.Abs(off).Cmp(big.NewRat(1, 1)) < 0
		}
		if fits {
			return
		}
	}
	t.Fatalf("%v rounded to %d bits: %v", list, bits, rounded)
}

func TestNumbersStay(t *testing.T) {
	a := whole.Number{Re: big.NewInt(3), Im: big.NewInt(-5)}
	b := whole.Number{Re: big.NewInt(-7), Im: big.NewInt(2)}
	for _, c := range []struct {
		name   string
		got    whole.Number
		re, im int64
	}{{"Add", a.Add(b), -4, -3}, {"Sub", a.Sub(b), 10, -7}, {"Mul", a.Mul(b), -11, 41}, {"Conj", a.Conj(), 3, 5}} {
		if c.got.Re.Int64() != c.re || c.got.Im.Int64() != c.im {
			t.Errorf("%s = %v", c.name, c.got)
		}
	}
	if a.Re.Int64() != 3 || a.Im.Int64() != -5 || b.Re.Int64() != -7 || b.Im.Int64() != 2 {
		t.Errorf("the numbers became %v, %v", a, b)
	}
}

func TestLongest(t *testing.T) {
	number := func(re, im int64) whole.Number { return whole.Number{Re: big.NewInt(re), Im: big.NewInt(im)} }
	for _, c := range []struct {
		list []whole.Number
		want int
	}{{nil, 0}, {[]whole.Number{number(0, 0)}, 0}, {[]whole.Number{number(3, -8), number(1, 1)}, 4}, {[]whole.Number{number(0, 0), number(-255, 2)}, 8}} {
		if n := whole.Longest(c.list); n != c.want {
			t.Errorf("Longest(%v) = %d, want %d", c.list, n, c.want)
		}
	}
	for _, c := range []struct {
		a      whole.Number
		nought bool
	}{{number(0, 0), true}, {number(0, -1), false}, {number(2, 0), false}} {
		if c.a.Nought() != c.nought {
			t.Errorf("%v is nought: %v", c.a, c.a.Nought())
		}
	}
}

func TestTimesAndQuoRem(t *testing.T) {
	a, n := whole.Number{Re: big.NewInt(7), Im: big.NewInt(-12)}, big.NewInt(5)
	product := a.Times(n)
	if product.Re.Int64() != 35 || product.Im.Int64() != -60 {
		t.Errorf("Times = %v", product)
	}
	if back, rest := product.QuoRem(n); back.Re.Int64() != 7 || back.Im.Int64() != -12 || !rest.Nought() {
		t.Errorf("QuoRem = %v, %v", back, rest)
	}
	quotient, rest := a.QuoRem(n)
	if quotient.Re.Int64() != 1 || quotient.Im.Int64() != -2 || rest.Re.Int64() != 2 || rest.Im.Int64() != -2 {
		t.Errorf("QuoRem = %v, %v", quotient, rest)
	}
	if a.Re.Int64() != 7 || a.Im.Int64() != -12 || n.Int64() != 5 {
		t.Errorf("the numbers became %v, %v", a, n)
	}
}

func TestCommon(t *testing.T) {
	mix := trial.Mixer(4)
	for range 500 {
		list := make([]trial.Complex, mix.Below(4))
		want := big.NewInt(1)
		for i := range list {
			list[i] = trial.ValueGauss(mix.Gauss(1 + mix.Below(2)))
			for _, part := range []*big.Rat{list[i].Re, list[i].Im} {
				shared := new(big.Int).GCD(nil, nil, want, part.Denom())
				want.Mul(want, new(big.Int).Quo(part.Denom(), shared))
			}
		}
		above, den := whole.Common(read(list)...)
		if den.Cmp(want) != 0 || len(above) != len(list) {
			t.Fatalf("%v: %d numbers over %v, want %v", list, len(above), den, want)
		}
		for i, z := range list {
			if new(big.Rat).SetFrac(above[i].Re, den).Cmp(z.Re) != 0 || new(big.Rat).SetFrac(above[i].Im, den).Cmp(z.Im) != 0 {
				t.Fatalf("%v over %v is not %v", above[i], den, z)
			}
		}
	}
}
