package matrix

import (
	"swage/api"
	"swage/integer"
	"swage/row"
)

// Plus is the sums, place by place, or ErrRange, if both have not as many rows and columns.
func (m Matrix) Plus(o Matrix) (Matrix, api.Errno) {
	if m.Rows() != o.Rows() || m.Cols() != o.Cols() {
		return Matrix{}, api.ErrRange
	}
	return each(m.Rows(), func(i int) []integer.Int {
		l, _ := row.Add(m.rows[i], o.rows[i])
		return l
	}), api.OK
}

// Times is the product, or ErrRange, unless m has as many columns as o has rows, one at least.
func (m Matrix) Times(o Matrix) (Matrix, api.Errno) {
	if m.Cols() == 0 || m.Cols() != o.Rows() {
		return Matrix{}, api.ErrRange
	}
	columns := o.Turn().rows
	return each(m.Rows(), func(i int) []integer.Int { return dots(columns, m.rows[i]) }), api.OK
}

// dots is what each of the rows says with v: the sum of the products, place by place. All are as long as v.
func dots(rows [][]integer.Int, v []integer.Int) []integer.Int {
	l := make([]integer.Int, len(rows))
	for i := range l {
		l[i], _ = row.Dot(rows[i], v)
	}
	return l
}

// Scale is m, each number times c.
func (m Matrix) Scale(c integer.Int) Matrix {
	return each(m.Rows(), func(i int) []integer.Int { return row.Scale(m.rows[i], c) })
}

// Turn is m with its columns as rows.
func (m Matrix) Turn() Matrix {
	return each(m.Cols(), func(j int) []integer.Int {
		l := make([]integer.Int, m.Rows())
		for i := range l {
			l[i] = m.rows[i][j]
		}
		return l
	})
}

// Apply is, for each row, the sum of the products with v, place by place, or ErrRange, unless v has as many numbers as m has columns, one at least.
func (m Matrix) Apply(v []integer.Int) ([]integer.Int, api.Errno) {
	if m.Cols() == 0 || m.Cols() != len(v) {
		return nil, api.ErrRange
	}
	return dots(m.rows, v), api.OK
}
