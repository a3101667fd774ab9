package matrix

import (
	"iter"
	"slices"

	"swage/api"
	"swage/integer"
	"swage/ratio"
	"swage/row"
)

// Det is the determinant, or ErrRange, if m is not square.
func (m Matrix) Det() (integer.Int, api.Errno) {
	if !m.square() {
		return integer.Int{}, api.ErrRange
	}
	return determinant(m.rows), api.OK
}

// determinant is that of as many rows as columns, 1 of no rows.
func determinant(rows [][]integer.Int) integer.Int {
	e := begin(rows, len(rows))
	if !e.whole() {
		return integer.Int{}
	}
	return e.last
}

// Pivots tells the columns that are no sum of the columns ahead of them, each times some fraction, rising.
func (m Matrix) Pivots() iter.Seq[int] {
	return func(yield func(j int) bool) {
		for j := range begin(m.rows, m.Cols()).pivots() {
			if !yield(j) {
				return
			}
		}
	}
}

// Rank is how many pivot columns there are.
func (m Matrix) Rank() int {
	n := 0
	for range m.Pivots() {
		n++
	}
	return n
}

// Adjugate has at (i, j) the determinant of m without its row j and its column i, with a minus, if i + j is odd; or ErrRange, if m is not square.
func (m Matrix) Adjugate() (Matrix, api.Errno) {
	if !m.square() {
		return Matrix{}, api.ErrRange
	}
	if rows, _, e := m.adjugate(); e == api.OK { // one elimination in the place of one for each minor
		return Matrix{rows}, api.OK
	}
	return each(m.Rows(), func(i int) []integer.Int {
		l := make([]integer.Int, m.Cols())
		for j := range l {
			l[j] = determinant(minor(m.rows, j, i))
			if (i+j)%2 != 0 {
				l[j] = l[j].Neg()
			}
		}
		return l
	}), api.OK
}

// minor is the rows without the row i and the column j.
func minor(rows [][]integer.Int, i, j int) [][]integer.Int {
	left := slices.Concat(rows[:i], rows[i+1:])
	for k, l := range left {
		left[k] = slices.Concat(l[:j], l[j+1:])
	}
	return left
}

// over is the rows that m turns into the right ones times its determinant, and the determinant; or ErrFlat, if it is 0. The matrix is square, and there are as many rows on its right.
func (m Matrix) over(right [][]integer.Int) ([][]integer.Int, integer.Int, api.Errno) {
	both := each(m.Rows(), func(i int) []integer.Int { return slices.Concat(m.rows[i], right[i]) })
	e := begin(both.rows, m.Cols())
	if !e.whole() {
		return nil, integer.Int{}, api.ErrFlat
	}
	return e.solved(), e.last, api.OK
}

// adjugate is the adjugate's rows, which m turns into the identity times its determinant, and the determinant; or ErrFlat, if it is 0: then the identity says nothing of them. The matrix is square.
func (m Matrix) adjugate() ([][]integer.Int, integer.Int, api.Errno) {
	identity, _ := Identity(m.Rows())
	return m.over(identity.rows)
}

// Inverse is a matrix, and a number above 0, such that m times the matrix is the identity times the number, and nothing but 1 divides them all; or ErrRange, if m is not square, or ErrFlat, if its determinant is 0.
func (m Matrix) Inverse() (Matrix, integer.Int, api.Errno) {
	if !m.square() {
		return Matrix{}, integer.Int{}, api.ErrRange
	}
	rows, d, e := m.adjugate()
	if e != api.OK {
		return Matrix{}, integer.Int{}, e
	}
	common := row.Content(slices.Concat(rows...)) // it divides m times the rows, too, and so the determinant
	if d.Sign() < 0 {
		common = common.Neg()
	}
	d, _, _ = d.DivMod(common)
	return each(len(rows), func(i int) []integer.Int {
		l, _ := row.Over(rows[i], common)
		return l
	}), d, api.OK
}

// Solve is the fractions that m turns into b, or ErrRange, if m is not square or b has not as many numbers as m has rows, or ErrFlat, if its determinant is 0.
func (m Matrix) Solve(b []integer.Int) ([]ratio.Rat, api.Errno) {
	if !m.square() || len(b) != m.Rows() {
		return nil, api.ErrRange
	}
	right := each(len(b), func(i int) []integer.Int { return b[i : i+1] })
	rows, d, e := m.over(right.rows)
	if e != api.OK {
		return nil, e
	}
	l := make([]ratio.Rat, len(b))
	for i := range l {
		l[i], _ = ratio.Make(rows[i][0], d)
	}
	return l, api.OK
}
