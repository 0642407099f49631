package bilin

import (
	"math/big"

	"quaver/api"
	"quaver/exact"
	"quaver/ring"
)

// way is from one plane to the other for polynomials that are taken as of degree n; t is above over below, both by their powers.
type way struct {
	n            int
	above, below []exact.Power
}

// wayOf is the way with t's powers up to most.
func wayOf(n, most int, t api.Rat) way {
	above, below := exact.Read(t).Parts()
	return way{n, exact.Powers(above, most), exact.Powers(below, most)}
}

// apart is what step makes of p's real parts, and of its imaginary ones: where all else is real, neither comes to the other.
func apart(p api.Poly, step func(list []exact.Number) []exact.Number) api.Poly {
	if len(p) == 0 {
		return nil
	}
	var re, im []exact.Number
	for _, c := range ring.Read(p) {
		re, im = append(re, c.Re), append(im, c.Im)
	}
	re, im = step(re), step(im)
	list := make(ring.Poly, len(re))
	for i := range list {
		list[i] = exact.Complex{Re: re[i], Im: im[i]}
	}
	return ring.Trim(list).Form()
}

// there is the sum of all list[i] (z - 1)^i (z + 1)^(n-i) / t^i.
func (w way) there(list []exact.Number) []exact.Number {
	// All terms over one denominator, so that no sum looks for common divisors.
	den, last := exact.Denominator(list...), len(list)-1
	terms := make([]term, len(list))
	for i, x := range list {
		times := x.Raise(den)
		times.Mul(times, w.below[i].Value()).Mul(times, w.above[last-i].Value())
		terms[i] = term{times, binomials(line{-1, 1}, i, line{1, 1}, w.n-i)}
	}
	sums := make([]exact.Number, w.n+1)
	for k := range sums {
		sum, top := total(terms, k)
		// The terms up to top share what those behind it would have needed.
		sum.Quo(sum, w.above[last-top].Value())
		sums[k] = exact.Under(sum, exact.Once(den), w.above[top])
	}
	return sums
}

// back is the sum of all list[i] (1 + ts)^i (1 - ts)^(n-i).
func (w way) back(list []exact.Number) []exact.Number {
	den := exact.Denominator(list...)
	terms := make([]term, len(list))
	for i, x := range list {
		terms[i] = term{x.Raise(den), binomials(line{1, 1}, i, line{1, -1}, w.n-i)}
	}
	sums := make([]exact.Number, w.n+1)
	for k := range sums {
		sum, _ := total(terms, k)
		sum.Mul(sum, w.above[k].Value())
		sums[k] = exact.Under(sum, exact.Once(den), w.below[k])
	}
	return sums
}

// term is a polynomial of small whole coefficients, so many times.
type term struct {
	times *big.Int
	list  []int64
}

// total is the coefficient at the place k of all terms together, and the place of the last term that has one there.
func total(terms []term, k int) (sum *big.Int, top int) {
	sum = new(big.Int)
	for i, t := range terms {
		if t.list[k] != 0 && t.times.Sign() != 0 {
			sum.Add(sum, new(big.Int).Mul(t.times, big.NewInt(t.list[k])))
			top = i
		}
	}
	return sum, top
}

// line is the polynomial line[0] + line[1] x.
type line [2]int64

// binomials is the coefficients of a^i b^j. None is beyond 2^MaxRoots, where a's and b's are 1 or -1.
func binomials(a line, i int, b line, j int) []int64 {
	list := []int64{1}
	for range i {
		list = a.times(list)
	}
	for range j {
		list = b.times(list)
	}
	return list
}

func (a line) times(list []int64) []int64 {
	next := make([]int64, len(list)+1)
	for i, c := range list {
		next[i] += a[0] * c
		next[i+1] += a[1] * c
	}
	return next
}
