package trial

import (
	"slices"
	"sync"
)

// markNumber stands in the spare room of a list of numbers.
const markNumber = complex(0x1.23456789abcdep77, -0x1.edcba98765432p-77)

func roomyList(list []complex128) []complex128 {
	return append(slices.Clone(list), slices.Repeat([]complex128{markNumber}, spare)...)[:len(list)]
}

func keptList(list, was []complex128) bool {
	return AlikeNumbers(list, was) && AlikeNumbers(list[len(was):len(was)+spare], slices.Repeat([]complex128{markNumber}, spare))
}

// ScrawlList writes over all of a list, its spare room too.
func ScrawlList(list []complex128) {
	all := list[:cap(list)]
	for i := range all {
		all[i] = -markNumber
	}
}

// ListCall is a call of lists of complex numbers that answers such lists.
type ListCall func(args [][]complex128) [][]complex128

func eachList(lists [][]complex128, f func([]complex128) []complex128) [][]complex128 {
	var made [][]complex128
	for _, list := range lists {
		made = append(made, f(list))
	}
	return made
}

func alikeLists(a, b [][]complex128) bool {
	return slices.EqualFunc(a, b, AlikeNumbers)
}

// TouchedLists says what a call does that the rule of memory rules out; of a call that keeps to it nothing.
func TouchedLists(call ListCall, given ...[]complex128) string {
	args := eachList(given, roomyList)
	got := call(args)
	for i, list := range args {
		if !keptList(list, given[i]) {
			return "what it was given is changed"
		}
	}
	want := eachList(got, slices.Clone)
	for _, list := range args {
		ScrawlList(list)
	}
	if !alikeLists(got, want) {
		return "an answer shares memory with an argument"
	}
	for _, list := range call(eachList(given, slices.Clone)) {
		ScrawlList(list)
	}
	for i, list := range got {
		// What is written over one by one shows which of the others it is.
		if !AlikeNumbers(list, want[i]) {
			return "two answers, or two lists of an answer, share memory"
		}
		ScrawlList(list)
	}
	if !alikeLists(call(eachList(given, slices.Clone)), want) {
		return "it answers otherwise, when an earlier answer is written over"
	}
	return ""
}

// BesideLists says whether a call answers otherwise, when others like it run beside it; if not, nothing.
func BesideLists(call ListCall, given ...[]complex128) string {
	want := call(given)
	got := make([][][]complex128, 16)
	var group sync.WaitGroup
	for i := range got {
		group.Go(func() { got[i] = call(given) })
	}
	group.Wait()
	for _, answer := range got {
		if !alikeLists(answer, want) {
			return "it answers otherwise beside others"
		}
	}
	return ""
}
