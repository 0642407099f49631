// Package squares counts the positive and the negative squares of Hermitian matrices: exactly, though it works with short numbers. A matrix is rounded and reduced, row by row, with a bound of all errors at hand; where that leaves a sign in doubt, more bits are taken.
package squares

import (
	"math/big"

	"quaver/whole"
)

// Matrix is the lower half of a Hermitian matrix: row i has the entries 0 to i.
type Matrix [][]whole.Number

const (
	// A product of two rounded numbers is off by less than 2^(bits + 3), a sum of 64 of these by less than 2^(bits + 9): over 2^bits, and rounded down, by less than 2^10.
	firstLoss = 10
	// What reduce adds to the errors is told there. It asks for a square that is beyond them by so many bits: then its sign is beyond doubt, too.
	reduceLoss = 5
	margin     = 4
	// A row that is joined with another one has twice the errors, its entry on the diagonal four times.
	joinLoss = 2
)

// Count is how many positive and how many negative squares a matrix has, of so many rows and without a square of nought. build makes it of numbers that whole.Round has rounded to so many bits: each entry is the sum of at most 64 products of two of these.
func Count(rows int, build func(bits int) Matrix) (positive, negative int) {
tries:
	for bits := 64 + 8*rows; ; bits *= 2 {
		left := reduction{build(bits).down(uint(bits)), firstLoss}
		positive, negative = 0, 0
		for len(left.rows) > 0 {
			k := left.pivot()
			square := left.rows[k][k].Re
			if square.BitLen() <= left.loss+margin {
				continue tries // the rows that are left would tell nothing
			}
			if square.Sign() > 0 {
				positive++
			} else {
				negative++
			}
			left.reduce(k)
		}
		return positive, negative
	}
}

// down is the matrix over 2^n, rounded down.
func (m Matrix) down(n uint) Matrix {
	short := make(Matrix, len(m))
	for i, row := range m {
		for _, c := range row {
			short[i] = append(short[i], c.Down(n))
		}
	}
	return short
}

// reduction is what is left of a matrix. Each entry is off by at most 2^loss, in magnitude.
type reduction struct {
	rows Matrix
	loss int
}

// at is the entry (i, j), also above the diagonal.
func (r *reduction) at(i, j int) whole.Number {
	if i < j {
		return r.rows[j][i].Conj()
	}
	return r.rows[i][j]
}

// pivot is a row whose entry on the diagonal is at least half as great as all parts beside the diagonal. Where there is none, it joins two rows.
func (r *reduction) pivot() int {
	var k, low, high int
	square, beside := new(big.Int), new(big.Int)
	for i, row := range r.rows {
		if row[i].Re.CmpAbs(square) > 0 {
			k, square = i, row[i].Re
		}
		for j, c := range row[:i] {
			if part := c.Greater(); part.Cmp(beside) > 0 {
				low, high, beside = j, i, part
			}
		}
	}
	if new(big.Int).Lsh(square, 1).CmpAbs(beside) >= 0 {
		return k
	}
	r.join(low, high)
	return low
}

// join adds a row, turned, to one above it, and the columns likewise. Their common entry beside the diagonal is turned so that its greater part, the greatest of all, is added twice to the upper row's entry on the diagonal. As the two rows' own entries there are less than half as great as that part, the new one is greater than it.
func (r *reduction) join(low, high int) {
	turn := upright(r.at(high, low))
	row := make([]whole.Number, len(r.rows))
	for j := range row {
		row[j] = r.at(low, j).Add(turn.Mul(r.at(high, j)))
	}
	row[low] = row[low].Add(turn.Conj().Mul(row[high]))
	copy(r.rows[low], row)
	for j := low + 1; j < len(row); j++ {
		r.rows[j][low] = row[j].Conj()
	}
	r.loss += joinLoss
}

// reduce takes the square of row k away, and that row and its column with it: from the entry (i, j) goes the entry (i, k) times the conjugate of (j, k) over (k, k).
//
// With errors up to e, d = (k, k) at least 16 e in magnitude, and x and y in its column up to sqrt(8) times d in magnitude (pivot sees to that): x * y / d is off by at most ((|x| + |y| + e) * |d| + |x| * |y|) * e / (|d| * (|d| - e)), which is below 15 e. With the entry's own error, and less than 2 by the rounding here, that is less than 32 e: 5 bits.
func (r *reduction) reduce(k int) {
	column := make([]whole.Number, len(r.rows))
	longest := 0
	for i := range column {
		column[i] = r.at(i, k)
		longest = max(longest, column[i].Greater().BitLen())
	}
	bits := uint(longest + 2)
	left := make(Matrix, 0, len(r.rows)-1)
	for i, row := range r.rows {
		if i == k {
			continue
		}
		times := column[i].Over(r.rows[k][k].Re, bits)
		next := make([]whole.Number, 0, len(row))
		for j, c := range row {
			if j != k {
				next = append(next, c.Sub(times.Mul(column[j].Conj()).Down(bits)))
			}
		}
		left = append(left, next)
	}
	r.rows, r.loss = left, r.loss+reduceLoss
}

// upright is the one of 1, -1, i, -i that makes a's greater part real and puts it above nought, multiplied with it.
func upright(a whole.Number) whole.Number {
	if a.Re.CmpAbs(a.Im) >= 0 {
		return whole.Number{Re: big.NewInt(int64(a.Re.Sign())), Im: new(big.Int)}
	}
	return whole.Number{Re: new(big.Int), Im: big.NewInt(int64(-a.Im.Sign()))}
}
