package ratio_test

import (
	"math"
	"slices"
	"sync"
	"testing"

	"quaver/api"
	"quaver/ratio"
)

const mark = 0xdeadbeefdeadbeef

// roomy is a copy of the list with spare room that is marked.
func roomy(list []uint64) []uint64 {
	whole := append(slices.Clone(list), ones(5, mark)...)
	return whole[:len(list)]
}

// kept: does a roomy list stand as it was, its spare room too?
func kept(list, was []uint64) bool {
	whole := list[:cap(list)]
	return slices.Equal(list, was) && slices.Equal(whole[len(was):len(was)+5], ones(5, mark))
}

// scrawl writes over all of a list, its spare room too.
func scrawl(list []uint64) {
	whole := list[:cap(list)]
	for i := range whole {
		whole[i] = 0x5555555555555555
	}
}

// clone is r in memory of its own.
func clone(r api.Rat) api.Rat {
	return api.Rat{Neg: r.Neg, Num: slices.Clone(r.Num), Den: slices.Clone(r.Den)}
}

// calls: every call that answers a Rat, of two numbers.
func calls() map[string]func(a, b api.Rat) api.Rat {
	list := map[string]func(a, b api.Rat) api.Rat{
		"Make":  func(a, b api.Rat) api.Rat { r, _ := ratio.Make(a.Neg, a.Num, b.Num); return r },
		"Int":   func(a, b api.Rat) api.Rat { return ratio.Int(int64(len(a.Num))) },
		"From":  func(a, b api.Rat) api.Rat { r, _ := ratio.From(1); return r },
		"Neg":   func(a, b api.Rat) api.Rat { r, _ := ratio.Neg(a); return r },
		"Floor": func(a, b api.Rat) api.Rat { r, _ := ratio.Floor(a); return r },
	}
	for _, op := range binaries() {
		list[op.name] = func(a, b api.Rat) api.Rat { r, _ := op.call(a, b); return r }
	}
	return list
}

// operands: pairs of numbers in form, ones and noughts among them, for which a call might hand on what it was given.
func operands() [][2]api.Rat {
	list := []api.Rat{frac(0, 1), frac(1, 1), frac(-1, 1), frac(3, 1), frac(2, 3), frac(-5, 2), {Num: []uint64{1, 2, 3}, Den: []uint64{7, 7}}, {Neg: true, Num: []uint64{1}, Den: []uint64{0, 0, 8}}}
	var pairs [][2]api.Rat
	for _, a := range list {
		for _, b := range list {
			pairs = append(pairs, [2]api.Rat{a, b})
		}
	}
	return pairs
}

func TestArgumentsStay(t *testing.T) {
	for name, call := range calls() {
		for _, pair := range operands() {
			a := api.Rat{Neg: pair[0].Neg, Num: roomy(pair[0].Num), Den: roomy(pair[0].Den)}
			b := api.Rat{Neg: pair[1].Neg, Num: roomy(pair[1].Num), Den: roomy(pair[1].Den)}
			got := call(a, b)
			ratio.Form(a)
			ratio.Cmp(a, b)
			ratio.To(a)
			ratio.To32(a)
			if !kept(a.Num, pair[0].Num) || !kept(a.Den, pair[0].Den) || !kept(b.Num, pair[1].Num) || !kept(b.Den, pair[1].Den) {
				t.Errorf("Memory: %s(%v, %v) changed what it was given", name, pair[0], pair[1])
			}
			was := clone(got)
			for _, list := range [][]uint64{a.Num, a.Den, b.Num, b.Den} {
				scrawl(list)
			}
			if !alike(got, was) {
				t.Errorf("Memory: %s(%v, %v): the answer shares memory with an argument", name, pair[0], pair[1])
			}
		}
	}
}

func TestAnswersShareNothing(t *testing.T) {
	for name, call := range calls() {
		for _, pair := range operands() {
			a, b := clone(pair[0]), clone(pair[1])
			first, second := call(a, b), call(a, b)
			was := clone(first)
			if !alike(first, second) {
				t.Errorf("P2: %s(%v, %v) answers %v, then %v", name, a, b, first, second)
			}
			scrawl(second.Num)
			scrawl(second.Den)
			if !alike(first, was) || !alike(a, pair[0]) || !alike(b, pair[1]) {
				t.Errorf("Memory: two answers of %s(%v, %v) share memory", name, pair[0], pair[1])
			}
			scrawl(first.Num)
			if !slices.Equal(first.Den, was.Den) {
				t.Errorf("Memory: Num and Den of %s(%v, %v) share memory", name, pair[0], pair[1])
			}
			if last := call(a, b); !alike(last, was) {
				t.Errorf("Memory: %s(%v, %v) answers %v, when an earlier answer was written over", name, pair[0], pair[1], last)
			}
		}
	}
}

func TestNilAndEmptyAreTheSame(t *testing.T) {
	a, b := api.Rat{Num: nil, Den: []uint64{1}}, api.Rat{Num: []uint64{}, Den: []uint64{1}}
	if !ratio.Form(a) || !ratio.Form(b) || ratio.Form(api.Rat{Num: []uint64{1}, Den: []uint64{}}) {
		t.Error("P2.1: Form tells nil and empty lists apart")
	}
	if c, e := ratio.Cmp(a, b); c != 0 || e != api.OK {
		t.Errorf("P2.6: Cmp of nil and empty: %d, %d", c, e)
	}
	_, e := ratio.Make(false, nil, []uint64{})
	_, f := ratio.Make(false, []uint64{}, nil)
	if e != api.ErrZero || f != api.ErrZero {
		t.Errorf("P2.2: Make of nil and empty: %d, %d", e, f)
	}
}

func TestManyAtATime(t *testing.T) {
	a, b := api.Rat{Num: []uint64{1, 2, 3}, Den: []uint64{7, 7}}, api.Rat{Neg: true, Num: ones(40, math.MaxUint64), Den: []uint64{0, 8}}
	for name, call := range calls() {
		want := call(a, b)
		got := make([]api.Rat, 16)
		var group sync.WaitGroup
		for i := range got {
			group.Go(func() { got[i] = call(a, b) })
		}
		group.Wait()
		for _, r := range got {
			if !alike(r, want) {
				t.Errorf("P2: %s answers %v beside others, %v alone", name, r, want)
			}
		}
	}
}
