package matrix

import (
	"iter"
	"slices"

	"swage/integer"
	"swage/row"
)

// elimination is rows that are on their way to steps: below a pivot, in its column, stand noughts.
type elimination struct {
	rows  [][]integer.Int // the list is its own, the rows are replaced, never written into
	width int             // in how many columns pivots are sought; what stands behind them goes along
	last  integer.Int     // the last pivot, 1 ahead of the first one
}

// begin is an elimination of these rows, in their first columns.
func begin(rows [][]integer.Int, width int) *elimination {
	return &elimination{rows: slices.Clone(rows), width: width, last: integer.Of(1)}
}

// pivots tells the columns with a pivot, rising, each as soon as it is cleared; it may be gone through once.
func (e *elimination) pivots() iter.Seq[int] {
	return func(yield func(j int) bool) {
		found := 0
	columns:
		for j := range e.width {
			for i := found; i < len(e.rows); i++ {
				if e.rows[i][j].Sign() == 0 {
					continue
				}
				e.swap(found, i)
				e.clear(found, j)
				found++
				if !yield(j) {
					break columns
				}
				continue columns
			}
		}
	}
}

// swap changes two rows about, if they are two, one with the other signs, so that determinants stay as they are.
func (e *elimination) swap(i, k int) {
	if i != k {
		e.rows[i], e.rows[k] = e.rows[k], row.Neg(e.rows[i])
	}
}

// clear makes noughts of what stands below row k in the column j. Numbers are then determinants of the matrix's own numbers, one row and column greater than before (Bareiss): so the last pivot divides them all, and they stay small.
func (e *elimination) clear(k, j int) {
	pivot := e.rows[k][j]
	for i := k + 1; i < len(e.rows); i++ {
		l, _ := row.Combine(pivot, e.rows[i], e.rows[i][j].Neg(), e.rows[k])
		e.rows[i], _ = row.Over(l, e.last)
	}
	e.last = pivot
}

// whole eliminates, and tells whether there is a pivot in each column; behind one without it goes on to the next pivot alone. The last pivot of as many rows as columns is then their determinant.
func (e *elimination) whole() bool {
	found := 0
	for j := range e.pivots() {
		if j != found {
			return false
		}
		found++
	}
	return found == e.width
}

// solved is, of a whole elimination, the rows that the matrix ahead turns into what stood behind it, times the last pivot: times the determinant they are whole numbers, so that each division is exact (Cramer).
func (e *elimination) solved() [][]integer.Int {
	out := make([][]integer.Int, e.width)
	one := integer.Of(1)
	for i := e.width - 1; i >= 0; i-- {
		ahead := e.rows[i][:e.width]
		rest := row.Scale(e.rows[i][e.width:], e.last)
		for k := i + 1; k < e.width; k++ {
			rest, _ = row.Combine(one, rest, ahead[k].Neg(), out[k])
		}
		out[i], _ = row.Over(rest, ahead[i])
	}
	return out
}
