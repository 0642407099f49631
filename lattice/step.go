package lattice

// step takes a sample through a lattice of these numbers and writes over what it keeps. The two lines are handed in, so that the rounded answers and the true ones come by one and the same order of steps.
func step[T any](numbers, back []T, x T, less, more func(a, k, b T) T) T {
	f := x
	for m := len(numbers); m > 0; m-- {
		k, b := numbers[m-1], back[m-1]
		f = less(f, k, b)
		// What stands at m was taken one turn ago, so it may go; the first turn's goes nowhere.
		if m < len(back) {
			back[m] = more(b, k, f)
		}
	}
	if len(back) > 0 {
		back[0] = f
	}
	return f
}
