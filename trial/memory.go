package trial

import (
	"slices"
	"sync"

	"quaver/api"
)

const (
	mark  = 0xdeadbeefdeadbeef
	spare = 5
)

// Roomy is a copy of the list with spare room that is marked.
func Roomy(list []uint64) []uint64 {
	return append(slices.Clone(list), Ones(spare, mark)...)[:len(list)]
}

// Kept: does a roomy list stand as it was, its spare room too?
func Kept(list, was []uint64) bool {
	return slices.Equal(list, was) && slices.Equal(list[len(was):len(was)+spare], Ones(spare, mark))
}

// Scrawl writes over all of a list, its spare room too.
func Scrawl(list []uint64) {
	all := list[:cap(list)]
	for i := range all {
		all[i] = 0x5555555555555555
	}
}

// Numbers are exact numbers that are handed in or answered, a polynomial's coefficients too.
type Numbers []api.Gauss

// Limbs are all lists of limbs of these numbers.
func (n Numbers) Limbs() [][]uint64 {
	var lists [][]uint64
	for _, g := range n {
		lists = append(lists, g.Re.Num, g.Re.Den, g.Im.Num, g.Im.Den)
	}
	return lists
}

// change is a copy of these numbers, each list of limbs made anew, with so much spare room.
func (n Numbers) change(room int, list func([]uint64) []uint64) Numbers {
	part := func(r api.Rat) api.Rat {
		return api.Rat{Neg: r.Neg, Num: list(r.Num), Den: list(r.Den)}
	}
	all := make(Numbers, len(n), len(n)+room)
	for i, g := range n {
		all[i] = api.Gauss{Re: part(g.Re), Im: part(g.Im)}
	}
	return all
}

// Clone is a copy in memory of its own.
func (n Numbers) Clone() Numbers {
	return n.change(0, slices.Clone)
}

// Roomy is a copy with spare room that is marked, in each list of limbs and in the list itself.
func (n Numbers) Roomy() Numbers {
	all := n.change(spare, Roomy)
	for range spare {
		all = append(all, api.Gauss{Re: api.Rat{Num: []uint64{mark}}})
	}
	return all[:len(n)]
}

// Kept: do roomy numbers stand as they were, the spare room too?
func (n Numbers) Kept(was Numbers) bool {
	if !AlikePoly(api.Poly(n), api.Poly(was)) {
		return false
	}
	old := was.Limbs()
	for i, list := range n.Limbs() {
		if !Kept(list, old[i]) {
			return false
		}
	}
	for _, g := range n[len(n) : len(n)+spare] {
		if !AlikeGauss(g, api.Gauss{Re: api.Rat{Num: []uint64{mark}}}) {
			return false
		}
	}
	return true
}

// Scrawl writes over all of these numbers, limbs and spare room too.
func (n Numbers) Scrawl() {
	all := n[:cap(n)]
	for _, list := range all.Limbs() {
		Scrawl(list)
	}
	for i := range all {
		all[i] = api.Gauss{Im: api.Rat{Neg: true, Den: []uint64{mark}}}
	}
}

// Call is a call of lists of numbers that answers lists of numbers.
type Call func(args []Numbers) []Numbers

// all is what f makes of each of the lists.
func all(lists []Numbers, f func(Numbers) Numbers) []Numbers {
	var made []Numbers
	for _, n := range lists {
		made = append(made, f(n))
	}
	return made
}

func alikeAll(a, b []Numbers) bool {
	return slices.EqualFunc(a, b, func(x, y Numbers) bool { return AlikePoly(api.Poly(x), api.Poly(y)) })
}

// Touched says what a call does that the rule of memory rules out; of a call that keeps to it nothing.
func Touched(call Call, given ...Numbers) string {
	args := all(given, Numbers.Roomy)
	got := call(args)
	for i, n := range args {
		if !n.Kept(given[i]) {
			return "what it was given is changed"
		}
	}
	want := all(got, Numbers.Clone)
	for _, n := range args {
		n.Scrawl()
	}
	if !alikeAll(got, want) {
		return "an answer shares memory with an argument"
	}
	return shared(call, all(given, Numbers.Clone), want)
}

// shared says which memory a call's answers share, that should answer want.
func shared(call Call, args, want []Numbers) string {
	was := all(args, Numbers.Clone)
	first, second := call(args), call(args)
	for _, n := range second {
		n.Scrawl()
	}
	if !alikeAll(first, want) {
		return "it answers otherwise, or two answers share memory"
	}
	var lists, old [][]uint64
	for i, n := range first {
		lists, old = append(lists, n.Limbs()...), append(old, want[i].Limbs()...)
	}
	for i, list := range lists {
		// What is written over one by one shows which of the others it is.
		if !slices.Equal(list, old[i]) {
			return "two lists of limbs of an answer share memory"
		}
		Scrawl(list)
	}
	for _, n := range first {
		n.Scrawl()
	}
	if !alikeAll(args, was) {
		return "an argument shares memory with an answer"
	}
	if !alikeAll(call(args), want) {
		return "it answers otherwise, when an earlier answer is written over"
	}
	return ""
}

// Beside says whether a call answers otherwise, when others like it run beside it; if not, nothing.
func Beside(call Call, given ...Numbers) string {
	want := call(given)
	got := make([][]Numbers, 16)
	var group sync.WaitGroup
	for i := range got {
		group.Go(func() { got[i] = call(given) })
	}
	group.Wait()
	for _, answer := range got {
		if !alikeAll(answer, want) {
			return "it answers otherwise beside others"
		}
	}
	return ""
}
