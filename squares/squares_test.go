package squares_test

import (
	"math/big"
	"testing"

	"quaver/api"
	"quaver/exact"
	"quaver/squares"
	"quaver/trial"
	"quaver/whole"
)

// read is these numbers as the program's own.
func read(list []trial.Complex) []exact.Complex {
	var made []exact.Complex
	for _, z := range list {
		made = append(made, exact.ReadComplex(z.Gauss()))
	}
	return made
}

// sum is the matrix with the entries (i, j) of all signs[k] times x[i*n+k] times the conjugate of x[j*n+k] together: it has the squares that the signs tell, if the rows of x are not dependent.
func sum(signs []int, x []whole.Number) squares.Matrix {
	n := len(signs)
	m := make(squares.Matrix, n)
	for i := range m {
		for j := range i + 1 {
			c := whole.Number{Re: new(big.Int), Im: new(big.Int)}
			for k, sign := range signs {
				product := x[i*n+k].Mul(x[j*n+k].Conj())
				if sign > 0 {
					c = c.Add(product)
				} else {
					c = c.Sub(product)
				}
			}
			m[i] = append(m[i], c)
		}
	}
	return m
}

// count is what Count answers of such a matrix, and with how many bits it was told.
func count(signs []int, x []trial.Complex) (positive, negative, bits int) {
	list := read(x)
	positive, negative = squares.Count(len(signs), func(n int) squares.Matrix {
		bits = n
		return sum(signs, whole.Round(list, n))
	})
	return positive, negative, bits
}

// tally is how many of the signs are above nought, and how many are not.
func tally(signs []int) (positive, negative int) {
	for _, s := range signs {
		if s > 0 {
			positive++
		}
	}
	return positive, len(signs) - positive
}

func TestSquaresOfSums(t *testing.T) {
	mix := trial.Mixer(1)
	for round := range 300 {
		n := mix.Below(9)
		signs := make([]int, n)
		for i := range signs {
			signs[i] = mix.Below(2)*2 - 1
		}
		// Below the diagonal anything, above it noughts, on it none: so no row hangs on others.
		var x []trial.Complex
		for i := range n {
			for k := range n {
				z := trial.ValueGauss(mix.Gauss(1 + round%2))
				switch {
				case k > i || k < i && round%3 == 0:
					z = trial.Fraction(0, 0, 1)
				case k == i && z.Nought():
					z = trial.Unit(int64(i), 1)
				}
				x = append(x, z)
			}
		}
		up, down := tally(signs)
		if a, b, bits := count(signs, x); a != up || b != down {
			t.Fatalf("signs %v, round %d: %d and %d squares with %d bits", signs, round, a, b, bits)
		}
	}
}

func TestSquaresThatAreNearNought(t *testing.T) {
	// The rows 1, 1 + 2^-n .. differ in their last bits alone: a short look tells nothing.
	for _, n := range []int{10, 100, 1000, 10000} {
		for _, signs := range [][]int{{1, 1}, {1, -1}, {-1, 1}, {-1, -1}} {
			low := trial.Complex{Re: trial.Up(-n), Im: trial.Down(-n)}
			one := trial.Fraction(1, 0, 1)
			up, down := tally(signs)
			a, b, bits := count(signs, []trial.Complex{one, one, one, one.Add(low)})
			if a != up || b != down {
				t.Errorf("signs %v, 2^-%d apart: %d and %d squares", signs, n, a, b)
			}
			if bits > 64+8*n {
				t.Errorf("signs %v, 2^-%d apart: %d bits", signs, n, bits)
			}
		}
	}
}

// beside is the matrix with noughts on its diagonal and these entries below it, row by row.
func beside(rows int, list []whole.Number, one whole.Number) squares.Matrix {
	m := make(squares.Matrix, rows)
	next := 0
	for i := range m {
		for range i {
			m[i] = append(m[i], list[next].Mul(one))
			next++
		}
		m[i] = append(m[i], whole.Number{Re: new(big.Int), Im: new(big.Int)})
	}
	return m
}

func TestNoughtsOnTheDiagonal(t *testing.T) {
	one, nought := read([]trial.Complex{trial.Fraction(1, 0, 1)}), trial.Fraction(0, 0, 1)
	for _, c := range []struct {
		rows     int
		list     []trial.Complex
		up, down int
	}{
		{0, nil, 0, 0},
		{2, []trial.Complex{trial.Fraction(1, 0, 1)}, 1, 1},
		{2, []trial.Complex{trial.Fraction(-1, 0, 1)}, 1, 1},
		{2, []trial.Complex{trial.Fraction(0, 1, 1)}, 1, 1},
		{2, []trial.Complex{trial.Fraction(0, -1, 1)}, 1, 1},
		{2, []trial.Complex{trial.Fraction(-3, 7, 5)}, 1, 1},
		{2, []trial.Complex{{Re: trial.Up(-900), Im: trial.Up(-901)}}, 1, 1},
		// All 1 beside the diagonal: n - 1, once, and -1.
		{3, []trial.Complex{trial.Fraction(1, 0, 1), trial.Fraction(1, 0, 1), trial.Fraction(1, 0, 1)}, 1, 2},
		{3, []trial.Complex{trial.Fraction(-1, 0, 1), trial.Fraction(-1, 0, 1), trial.Fraction(-1, 0, 1)}, 2, 1},
		// The determinant is twice the real part of the product of the first, the third and the second's conjugate.
		{3, []trial.Complex{trial.Fraction(0, 1, 1), trial.Fraction(1, 1, 1), trial.Fraction(2, 0, 1)}, 1, 2},
		{3, []trial.Complex{trial.Fraction(0, 1, 1), trial.Fraction(1, -1, 1), trial.Fraction(2, 0, 1)}, 2, 1},
		{4, []trial.Complex{trial.Fraction(0, 1, 1), nought, nought, nought, nought, trial.Fraction(-2, 0, 1)}, 2, 2},
		{4, []trial.Complex{nought, nought, trial.Fraction(5, 7, 1), trial.Fraction(1, 1, 900), nought, nought}, 2, 2},
	} {
		list := read(c.list)
		a, b := squares.Count(c.rows, func(bits int) squares.Matrix {
			return beside(c.rows, whole.Round(list, bits), whole.Round(one, bits)[0])
		})
		if a != c.up || b != c.down {
			t.Errorf("%d rows with %v beside noughts: %d, %d, want %d, %d", c.rows, c.list, a, b, c.up, c.down)
		}
	}
}

func TestManyRows(t *testing.T) {
	signs := make([]int, api.MaxRoots)
	mix := trial.Mixer(4)
	var x []trial.Complex
	for i := range signs {
		signs[i] = mix.Below(2)*2 - 1
		for range signs {
			x = append(x, trial.ValueGauss(api.Gauss{Re: trial.Frac(int64(mix.Bits()>>40), 1), Im: trial.Frac(int64(mix.Bits()>>40), 1)}))
		}
	}
	up, down := tally(signs)
	if a, b, bits := count(signs, x); a != up || b != down {
		t.Errorf("%d rows: %d and %d squares with %d bits, want %d and %d", len(signs), a, b, bits, up, down)
	}
}
