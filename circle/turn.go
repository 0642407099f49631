package circle

import (
	"slices"

	"quaver/api"
)

// Turn: j of 2^k parts of a turn: the complex128 nearest to the point, part by part.
func Turn(j, k int) (complex128, api.Errno) {
	if k < 0 || k > api.MaxTurn {
		return 0, api.ErrArg
	}
	j &= 1<<k - 1
	p := start()
	for i, root := range roots(k) {
		// The roots are an eighth of a turn, a sixteenth and so on: what j's digits are worth behind the first two.
		if j>>(k-3-i)&1 == 1 {
			p = p.times(root)
		}
	}
	return quarters(p.nearest(), j<<2>>k), api.OK
}

// Turns: all 2^k of them.
func Turns(k int) ([]complex128, api.Errno) {
	if k < 0 || k > api.MaxTurn {
		return nil, api.ErrArg
	}
	var first []complex128
	for _, p := range firstQuarter(k) {
		first = append(first, p.nearest())
	}
	list := make([]complex128, 1<<k)
	for j := range list {
		list[j] = quarters(first[j%len(first)], j<<2>>k)
	}
	return list, api.OK
}

// roots is the points at an eighth of a turn, a sixteenth and so on, down to one of 2^k parts.
func roots(k int) []point {
	var list []point
	p := quarter()
	for range k - 2 {
		p = p.half()
		list = append(list, p)
	}
	return list
}

// firstQuarter is the points at 0, 1, .. of 2^k parts of a turn, less than a quarter of it.
func firstQuarter(k int) []point {
	list := []point{start()}
	for _, root := range slices.Backward(roots(k)) {
		// All points that are there, once more with the next greater root: the list is as long as the root's part.
		for _, p := range list {
			list = append(list, p.times(root))
		}
	}
	return list
}

// quarters turns z by so many quarters, 0 to 3.
func quarters(z complex128, n int) complex128 {
	// 0 - x leaves a nought +0, where -x would turn its sign.
	switch n {
	case 1:
		return complex(0-imag(z), real(z))
	case 2:
		return complex(0-real(z), 0-imag(z))
	case 3:
		return complex(imag(z), 0-real(z))
	}
	return z
}
