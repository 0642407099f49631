package proto_test

import (
	"math"
	"math/big"
	"slices"
	"testing"

	"quaver/api"
	"quaver/biquad"
	"quaver/circle"
	"quaver/cplx"
	"quaver/proto"
	"quaver/resp"
	"quaver/trial"
	"quaver/zpk"
)

func TestPassExamples(t *testing.T) {
	for _, c := range []struct {
		name       string
		n          int64
		d          uint64
		pole, gain complex128
	}{
		{"Low", 1, 1, 0, 0.5}, {"Low", 1, 3, 0.5, 0.25}, {"Low", 3, 1, -0.5, 0.75}, {"Low", 1, 7, 0.75, 0.125},
		{"High", 1, 1, 0, 0.5}, {"High", 1, 3, 0.5, 0.75}, {"High", 3, 1, -0.5, 0.25}, {"High", 1, 7, 0.75, 0.875},
	} {
		zero := complex(-1, 0)
		if c.name == "High" {
			zero = complex(1, 0)
		}
		got, e := passes()[c.name](1, trial.Frac(c.n, c.d))
		is(t, "P24.2, P24.3: "+c.name, got, e, api.Zpk{Zeros: list(zero), Poles: list(c.pole), Gain: c.gain})
	}
}

// truly is P24.2 and P24.3, word by word.
func truly(t *testing.T, name string, order int, x api.Rat) api.Zpk {
	f := api.Zpk{}
	tangent, all, two := rational(x), whole(1), whole(1)
	for _, p := range poles(t, order) {
		s := trial.Exactly(p)
		var pole complex128
		if name == "Low" {
			ts := tangent.Mul(s)
			pole = whole(1).Add(ts).Quo(whole(1).Sub(ts)).Near()
			all, two = all.Mul(whole(1).Sub(trial.Exactly(pole))), two.Mul(whole(2))
			f.Zeros = append(f.Zeros, complex(-1, 0))
		} else {
			pole = s.Add(tangent).Quo(s.Sub(tangent)).Near()
			all, two = all.Mul(whole(-1).Sub(trial.Exactly(pole))), two.Mul(whole(-2))
			f.Zeros = append(f.Zeros, complex(1, 0))
		}
		f.Poles = append(f.Poles, pole)
	}
	f.Gain = all.Quo(two).Near()
	return f
}

// tangents are numbers above nought of all sizes.
func tangents() []api.Rat {
	all := []api.Rat{trial.Frac(1, 1), trial.Frac(1, 3), trial.Frac(22, 7), trial.Frac(1, 1000), trial.Frac(999, 1000), trial.Frac(1001, 1000), trial.Frac(12345, 1)}
	for _, n := range []int{1, 20, 52, 53, 54, 55, 60, 300, 520, 1000, 1022, 1023, 1072, 1073, 1074, 1075, 1076, 1100, 5000} {
		three := big.NewRat(3, 1)
		all = append(all, trial.Sum(trial.Up(n)), trial.Sum(trial.Up(-n)), trial.Sum(trial.Up(0), trial.Up(-n)), trial.Told(three.Mul(three, trial.Up(-n))))
	}
	mix := trial.Mixer(261)
	for range 30 {
		r := mix.Rat(1 + mix.Below(3))
		r.Neg = false
		if len(r.Num) > 0 {
			all = append(all, r)
		}
		all = append(all, trial.Told(trial.True(math.Abs(mix.Middle()))))
	}
	return all
}

func TestPassByAnotherRoad(t *testing.T) {
	for _, x := range tangents() {
		for _, n := range orders() {
			if len(x.Num)+len(x.Den) > 40 && n > 4 {
				continue
			}
			for name, call := range passes() {
				got, e := call(n, x)
				is(t, "P24.2, P24.3: "+name, got, e, truly(t, name, n, x))
				if t.Failed() {
					t.Fatalf("%s(%d, %v)", name, n, x)
				}
			}
		}
	}
}

// What is rounded to nought has the sign of the true part; what is nought has none.
func TestPassNoughts(t *testing.T) {
	tiny, great := trial.Sum(trial.Up(-3000)), trial.Sum(trial.Up(3000))
	for _, c := range []struct {
		name string
		x    api.Rat
		want api.Zpk
	}{
		{"Low", tiny, api.Zpk{Zeros: list(-1, -1), Poles: list(1, complex(1, minus)), Gain: 0}}, {"Low", great, api.Zpk{Zeros: list(-1, -1), Poles: list(-1, complex(-1, minus)), Gain: 1}},
		{"High", tiny, api.Zpk{Zeros: list(1, 1), Poles: list(complex(1, minus), 1), Gain: 1}}, {"High", great, api.Zpk{Zeros: list(1, 1), Poles: list(complex(-1, minus), -1), Gain: 0}},
	} {
		got, e := passes()[c.name](2, c.x)
		is(t, "P24.2, P24.3: "+c.name+" far off", got, e, c.want)
		if on, f := circle.On(got.Poles[0]); e != api.OK || f != api.OK || on != 0 {
			t.Errorf("P24.3: a pole of %s far off lies at %d to the circle, %d", c.name, on, f)
		}
	}
	for name, call := range passes() {
		got, e := call(1, trial.Frac(1, 1))
		if e != api.OK || !trial.AlikeNumbers(got.Poles, list(0)) {
			t.Errorf("P24.2, P24.3: %s(1, 1) = %x, %d", name, got, e)
		}
	}
}

// A Low of 1/t is a High of t with all poles and zeros on the other side: with the true poles mapped, which are rounded alike.
func TestLowAndHighAreMirrored(t *testing.T) {
	for _, x := range tangents() {
		low, e := proto.Low(4, api.Rat{Num: x.Den, Den: x.Num})
		high, f := proto.High(4, x)
		if e != api.OK || f != api.OK {
			t.Fatalf("P24.2, P24.3: %d, %d", e, f)
		}
		for i, p := range low.Poles {
			if high.Poles[i] != -p || high.Zeros[i] != -low.Zeros[i] || high.Gain != low.Gain {
				t.Errorf("P24.3: High(4, %v) = %v, Low(4, 1/t) = %v", x, high, low)
			}
		}
	}
}

// The filter lets all pass at one end, half of the power at the angle, and nothing at the other end.
func TestPassAnswers(t *testing.T) {
	for _, x := range []api.Rat{trial.Frac(1, 1), trial.Frac(1, 3), trial.Frac(5, 2), trial.Frac(3, 40)} {
		edge, e := circle.Near(x)
		if e != api.OK {
			t.Fatal(e)
		}
		for _, n := range orders() {
			for name, call := range passes() {
				f, e := call(n, x)
				sections, g := biquad.Filter(f)
				if stable, h := zpk.Stable(f); e != api.OK || g != api.OK || h != api.OK || !stable {
					t.Fatalf("%s(%d, %v): %d, %d, %d, stable %v", name, n, x, e, g, h, stable)
				}
				if paired, e := zpk.Real(f); e != api.OK || !paired {
					t.Errorf("P24.2, P24.3: %s(%d, %v) has poles without conjugates", name, n, x)
				}
				pass, stop := complex(1, 0), complex(-1, 0)
				if name == "High" {
					pass, stop = stop, pass
				}
				for _, c := range []struct {
					z    complex128
					want float64
				}{{pass, 1}, {edge, math.Sqrt(0.5)}, {stop, 0}} {
					a, e := resp.At(sections, c.z)
					if size := cplx.Abs(a); e != api.OK || math.Abs(size-c.want) > 1e-9 {
						t.Errorf("P24.2, P24.3: %s(%d, %v) answers %v at %v, %d, want %v", name, n, x, size, c.z, e, c.want)
					}
				}
			}
		}
	}
}

func TestPassErrors(t *testing.T) {
	for name, call := range passes() {
		for _, n := range orders() {
			for _, x := range []api.Rat{trial.Frac(0, 1), trial.Frac(-1, 2), trial.Frac(-5, 1), {Neg: true, Num: trial.Ones(api.MaxLimbs, 1), Den: []uint64{2}}} {
				f, e := call(n, x)
				fails(t, "Errors: "+name+" of 0 or below", f, e, api.ErrArg)
			}
			for _, x := range trial.Wrong() {
				f, e := call(n, x)
				fails(t, "Errors: "+name+" of a number not in form", f, e, api.ErrForm)
			}
			for _, x := range trial.Long() {
				f, e := call(n, x)
				fails(t, "Errors: "+name+" of a number too long", f, e, api.ErrLong)
			}
		}
	}
}

// Long numbers, each beside a short one so near to it, or as far off, that all is rounded alike.
func TestPassAtTheLimit(t *testing.T) {
	mix := trial.Mixer(262)
	power := func(limbs int) []uint64 { return append(make([]uint64, limbs-1), 1<<63) }
	ones := func(limbs int) []uint64 { return trial.Ones(limbs, math.MaxUint64) }
	odd := mix.Odd(api.MaxLimbs)
	cut := slices.Clone(odd[api.MaxLimbs-9:])
	cut[0] |= 1
	for _, c := range []struct {
		name        string
		long, short api.Rat
	}{
		{"over a power of two", api.Rat{Num: odd, Den: power(api.MaxLimbs)}, api.Rat{Num: cut, Den: power(9)}},
		{"a power of two over others", api.Rat{Num: power(api.MaxLimbs), Den: odd}, api.Rat{Num: power(9), Den: cut}},
		{"next to 1", api.Rat{Num: ones(api.MaxLimbs), Den: slices.Concat([]uint64{math.MaxUint64 - 1}, ones(api.MaxLimbs-1))}, trial.Sum(trial.Up(0), trial.Up(-3000))},
		{"next to 3", api.Rat{Num: slices.Concat(ones(api.MaxLimbs-1), []uint64{5}), Den: append(make([]uint64, api.MaxLimbs-1), 2)}, trial.Frac(3, 1)},
		{"great", api.Rat{Num: odd, Den: []uint64{1}}, trial.Sum(trial.Up(3000))},
		{"small", api.Rat{Num: []uint64{3}, Den: power(api.MaxLimbs)}, trial.Sum(trial.Up(-3000))},
	} {
		for _, n := range []int{1, 2, 4} {
			for name, call := range passes() {
				got, e := call(n, c.long)
				is(t, "P24.2, P24.3: "+name+" at MaxLimbs, "+c.name, got, e, truly(t, name, n, c.short))
			}
		}
	}
}
