package exact_test

import (
	"math/big"
	"slices"
	"testing"

	"quaver/api"
	"quaver/exact"
	"quaver/trial"
)

// of is n over d.
func of(neg bool, n, d uint64) exact.Number {
	return exact.Make(neg, []uint64{n}, []uint64{d})
}

func TestOperandsStay(t *testing.T) {
	list := []exact.Number{exact.Int(0), exact.Int(1), exact.Int(-1), of(false, 6, 4), of(true, 5, 7), exact.Binary(true, 3, -70), exact.Binary(false, 5, 200)}
	var was []api.Rat
	for _, x := range list {
		was = append(was, x.Rat())
	}
	for _, x := range list {
		for _, y := range list {
			exact.Add(x, y)
			exact.Sub(x, y)
			exact.Mul(x, y)
			exact.Cmp(x, y)
			if y.Sign() != 0 {
				exact.Quo(x, y)
			}
		}
		exact.Neg(x)
		exact.Floor(x)
		exact.Near(x, 53, -1074)
	}
	for i, x := range list {
		if !trial.Alike(x.Rat(), was[i]) {
			t.Errorf("%v became %v", was[i], x.Rat())
		}
	}
}

func TestBinary(t *testing.T) {
	for _, c := range []struct {
		neg  bool
		m    uint64
		e    int
		want api.Rat
	}{
		{true, 0, -1074, api.Rat{Den: []uint64{1}}},
		{true, 0, 3, api.Rat{Den: []uint64{1}}},
		{true, 12, -1, api.Rat{Neg: true, Num: []uint64{6}, Den: []uint64{1}}},
		{false, 12, -2, api.Rat{Num: []uint64{3}, Den: []uint64{1}}},
		{false, 12, -3, api.Rat{Num: []uint64{3}, Den: []uint64{2}}},
		{false, 3, 64, api.Rat{Num: []uint64{0, 3}, Den: []uint64{1}}},
		{true, 1, -128, api.Rat{Neg: true, Num: []uint64{1}, Den: []uint64{0, 0, 1}}},
	} {
		if r := exact.Binary(c.neg, c.m, c.e).Rat(); !trial.Alike(r, c.want) {
			t.Errorf("Binary(%v, %d, %d) = %v, want %v", c.neg, c.m, c.e, r, c.want)
		}
	}
}

func TestNear(t *testing.T) {
	for _, c := range []struct {
		x           exact.Number
		bits, least int
		m           uint64
		e           int
	}{
		{of(false, 1, 3), 3, -100, 5, -4},
		{of(true, 1, 3), 3, -3, 3, -3},
		{of(false, 15, 1), 3, -100, 8, 1},
		{of(false, 9, 1), 3, -100, 4, 1},
		{of(false, 11, 1), 3, -100, 6, 1},
		{of(false, 1, 2), 3, 0, 0, 0},
		{of(false, 3, 4), 3, 0, 1, 0},
		{of(false, 5, 1), 3, 0, 5, 0},
	} {
		if m, e := exact.Near(c.x, c.bits, c.least); m != c.m || e != c.e {
			t.Errorf("Near(%v, %d, %d) = %d * 2^%d, want %d * 2^%d", c.x.Rat(), c.bits, c.least, m, e, c.m, c.e)
		}
	}
}

func TestBeyondTheLimit(t *testing.T) {
	// 2^m - 1 and 2^n - 1 have the divisor 2^64 - 1 in common, and no greater one.
	x := exact.Make(false, slices.Repeat([]uint64{1<<64 - 1}, 3*api.MaxLimbs), slices.Repeat([]uint64{1<<64 - 1}, api.MaxLimbs+1))
	back := exact.Quo(exact.Mul(x, x), x)
	if exact.Cmp(back, x) != 0 || !trial.Alike(back.Rat(), x.Rat()) || !exact.Coprime(x.Rat().Num, x.Rat().Den) {
		t.Error("x * x / x is not x, where x is long")
	}
	if nought := exact.Sub(exact.Add(x, exact.Int(1)), exact.Add(exact.Int(1), x)); nought.Sign() != 0 || !trial.Alike(nought.Rat(), exact.Int(0).Rat()) {
		t.Error("x + 1 - (1 + x) is not 0, where x is long")
	}
}

func TestRest(t *testing.T) {
	for _, c := range []struct {
		x        exact.Number
		prime    uint64
		num, den uint64
	}{
		{exact.Int(0), 5, 0, 1}, {exact.Int(7), 5, 2, 1}, {exact.Int(-7), 5, 3, 1}, {exact.Int(-10), 5, 0, 1}, {of(false, 3, 10), 5, 3, 0}, {of(true, 3, 8), 5, 2, 3},
		{exact.Binary(true, 1, 64), 1<<61 - 1, 1<<61 - 1 - 8, 1}, {exact.Binary(false, 1, -200), 1<<61 - 1, 1, 1 << 17}, // 2^61 leaves 1
		{exact.Make(false, []uint64{5, 0, 1}, []uint64{3, 1}), 1<<61 - 1, 5 + 1<<6, 3 + 1<<3},
	} {
		if num, den := c.x.Rest(c.prime); num != c.num || den != c.den {
			t.Errorf("%v modulo %d: %d over %d, want %d over %d", c.x.Rat(), c.prime, num, den, c.num, c.den)
		}
	}
}

func TestOverAndParts(t *testing.T) {
	x := exact.Over(big.NewInt(-12), big.NewInt(18))
	num, den := x.Parts()
	if num.Cmp(big.NewInt(-2)) != 0 || den.Cmp(big.NewInt(3)) != 0 {
		t.Errorf("-12 over 18 is %v over %v", num, den)
	}
}

func TestComplexStays(t *testing.T) {
	list := []exact.Complex{exact.Real(0), exact.Real(-3), {Re: of(false, 6, 4), Im: of(true, 5, 7)}, {Re: exact.Int(0), Im: exact.Binary(true, 3, -70)}}
	var was []api.Gauss
	for _, a := range list {
		was = append(was, a.Gauss())
	}
	for _, a := range list {
		for _, b := range list {
			a.Add(b)
			a.Sub(b)
			a.Mul(b)
			if !b.Nought() {
				a.Quo(b)
			}
		}
		a.Neg()
		a.Conj()
		a.Norm()
	}
	for i, a := range list {
		if g := a.Gauss(); !trial.Alike(g.Re, was[i].Re) || !trial.Alike(g.Im, was[i].Im) {
			t.Errorf("%v became %v", was[i], g)
		}
	}
}

func TestWhole(t *testing.T) {
	mix := trial.Mixer(21)
	for round := range 2000 {
		r := mix.Rat(1 + round%4)
		n := mix.Below(400) - 200
		x := exact.Read(r)
		value := new(big.Rat).Mul(trial.Value(r), trial.Up(n))
		want := new(big.Int).Div(value.Num(), value.Denom())
		if got := x.Whole(n); got.Cmp(want) != 0 {
			t.Fatalf("%v times 2^%d, rounded down, is %v, want %v", r, n, got, want)
		}
		size := new(big.Rat).Abs(trial.Value(r))
		if size.Cmp(trial.Up(x.Reach())) >= 0 || x.Sign() != 0 && size.Cmp(trial.Up(x.Reach()-2)) < 0 {
			t.Fatalf("%v reaches 2^%d", r, x.Reach())
		}
		if !trial.Alike(x.Rat(), r) {
			t.Fatalf("%v became %v", r, x.Rat())
		}
	}
}
