package matrix_test

import (
	"math"
	"math/big"
	"slices"
	"testing"

	"swage/api"
	"swage/integer"
	"swage/matrix"
)

// top is the greatest limb.
const top = 1<<32 - 1

// of is a small number.
func of(n int64) integer.Int { return integer.Of(n) }

// list is a list of small numbers.
func list(l ...int64) []integer.Int {
	out := make([]integer.Int, len(l))
	for i, n := range l {
		out[i] = of(n)
	}
	return out
}

// made is the matrix of these rows, which may be one.
func made(t *testing.T, rows ...[]integer.Int) matrix.Matrix {
	t.Helper()
	m, e := matrix.New(rows...)
	if e != api.OK {
		t.Fatalf("New of %d rows: %v", len(rows), e)
	}
	return m
}

// small is the matrix of these small numbers.
func small(t *testing.T, rows ...[]int64) matrix.Matrix {
	t.Helper()
	lists := make([][]integer.Int, len(rows))
	for i, l := range rows {
		lists[i] = list(l...)
	}
	return made(t, lists...)
}

// maker makes the same numbers in every run: a shift register, so that a test that fails does so again.
type maker uint64

func (m *maker) next() uint32 {
	*m ^= *m << 13
	*m ^= *m >> 7
	*m ^= *m << 17
	return uint32(*m >> 16)
}

// number has n limbs or fewer; of none it is a small one, 0 more often than not.
func (m *maker) number(n int) integer.Int {
	if n == 0 {
		return of(max(0, int64(m.next()%12)-7) * (1 - 2*int64(m.next()%2)))
	}
	limbs := make([]uint32, n)
	for i := range limbs {
		limbs[i] = m.next()
	}
	return integer.Make(m.next()%2 == 0, limbs)
}

// lists are n rows of as many numbers each, of up to so many limbs.
func (m *maker) lists(rows, cols, limbs int) [][]integer.Int {
	l := make([][]integer.Int, rows)
	for i := range l {
		l[i] = make([]integer.Int, cols)
		for j := range l[i] {
			l[i][j] = m.number(limbs)
		}
	}
	return l
}

// flatten makes a row of others, times numbers, so that the determinant is 0; of one row it makes noughts.
func (m *maker) flatten(l [][]integer.Int) {
	k := int(m.next()) % len(l)
	for j := range l[k] {
		l[k][j] = of(0)
		for i := range l {
			if i != k {
				l[k][j] = l[k][j].Add(l[i][j].Times(i - 2))
			}
		}
	}
}

// each are n matrices with so many rows and columns: small numbers and great ones, columns of noughts, rows that others make up.
func each(t *testing.T, n, rows, cols int) []matrix.Matrix {
	t.Helper()
	m := maker(2463534242 + 31*rows + cols)
	var all []matrix.Matrix
	for k := range n {
		l := m.lists(rows, cols, k%4)
		if k%3 == 2 {
			m.flatten(l)
		}
		if k%5 == 4 {
			for _, r := range l {
				r[k%cols] = integer.Make(true, nil)
			}
		}
		all = append(all, made(t, l...))
	}
	return all
}

// some are matrices of every shape from 1 to 4 rows and columns, and a few greater ones; n of each.
func some(t *testing.T, n int) []matrix.Matrix {
	t.Helper()
	all := []matrix.Matrix{
		small(t, []int64{0}), small(t, []int64{7}), small(t, []int64{math.MinInt64}), small(t, []int64{1, 2}, []int64{3, 4}), small(t, []int64{2, 4}, []int64{1, 2}), small(t, []int64{0, 1}, []int64{1, 0}), small(t, []int64{0, 1, 2, 0}, []int64{0, 2, 4, 1}), small(t, []int64{1, 2, 3}, []int64{4, 5, 6}, []int64{7, 8, 9}),
	}
	for rows := range 4 {
		for cols := range 4 {
			all = append(all, each(t, n, rows+1, cols+1)...)
		}
	}
	for _, shape := range [][2]int{{1, 16}, {16, 1}, {5, 7}, {7, 5}, {6, 6}, {16, 16}} {
		all = append(all, each(t, min(n, 3), shape[0], shape[1])...)
	}
	return all
}

// squares are matrices of so many rows from 1 on; n of each.
func squares(t *testing.T, n, most int) []matrix.Matrix {
	t.Helper()
	var all []matrix.Matrix
	for k := range most {
		all = append(all, each(t, n, k+1, k+1)...)
	}
	return all
}

// value is what an Int says by its limbs.
func value(x integer.Int) *big.Int {
	neg, limbs := x.Limbs()
	v := new(big.Int)
	for i := len(limbs) - 1; i >= 0; i-- {
		v.Lsh(v, 32)
		v.Or(v, big.NewInt(int64(limbs[i])))
	}
	if neg {
		v.Neg(v)
	}
	return v
}

// values are what the numbers of a list say.
func values(l []integer.Int) []*big.Int {
	out := make([]*big.Int, len(l))
	for i, x := range l {
		out[i] = value(x)
	}
	return out
}

// grid is a matrix's numbers, by numbers of another make.
type grid [][]*big.Int

// told is what stands in a matrix, place by place.
func told(m matrix.Matrix) grid {
	g := make(grid, m.Rows())
	for i := range g {
		g[i] = make([]*big.Int, m.Cols())
		for j := range g[i] {
			x, _ := m.At(i, j)
			g[i][j] = value(x)
		}
	}
	return g
}

// same tells whether both lists are of the same numbers.
func same(a, b []*big.Int) bool {
	return slices.EqualFunc(a, b, func(x, y *big.Int) bool { return x.Cmp(y) == 0 })
}

// is tells whether a matrix is these numbers, by each call that tells them.
func is(m matrix.Matrix, want grid) bool {
	return slices.EqualFunc(told(m), want, same) && slices.EqualFunc(lines(m), want, same)
}

// lines are a matrix's numbers, row by row.
func lines(m matrix.Matrix) grid {
	g := make(grid, m.Rows())
	for i := range g {
		l, _ := m.Row(i)
		g[i] = values(l)
	}
	return g
}

// text is a matrix's text, told by numbers of another make.
func (g grid) text() string {
	t := "["
	for i, l := range g {
		if i > 0 {
			t += " "
		}
		t += "["
		for j, v := range l {
			if j > 0 {
				t += " "
			}
			t += v.String()
		}
		t += "]"
	}
	return t + "]"
}

// show is a matrix's text, by no Text of the package.
func show(m matrix.Matrix) string { return told(m).text() }

// filled is a grid of so many rows and columns: what of answers for each place.
func filled(rows, cols int, of func(i, j int) *big.Int) grid {
	g := make(grid, rows)
	for i := range g {
		g[i] = make([]*big.Int, cols)
		for j := range g[i] {
			g[i][j] = of(i, j)
		}
	}
	return g
}

// product is the sum of what stands in the row i of a and in the column j of b, multiplied one by one.
func product(a, b grid, i, j int) *big.Int {
	sum := new(big.Int)
	for k, x := range a[i] {
		sum.Add(sum, new(big.Int).Mul(x, b[k][j]))
	}
	return sum
}

// without is what is left without the row i and the column j.
func (g grid) without(i, j int) grid {
	var out grid
	for k, l := range g {
		if k != i {
			out = append(out, slices.Delete(slices.Clone(l), j, j+1))
		}
	}
	return out
}

// orders is the determinant by its words: the sum over all orders of the columns.
func (g grid) orders() *big.Int {
	if len(g) == 0 {
		return big.NewInt(1)
	}
	sum := new(big.Int)
	for j, x := range g[0] { // the column j comes first: it swaps with each one ahead of it
		part := new(big.Int).Mul(x, g.without(0, j).orders())
		if j%2 != 0 {
			part.Neg(part)
		}
		sum.Add(sum, part)
	}
	return sum
}

// steps goes through the columns by fractions, and answers those with pivots, and the product of the pivots, with a minus for each swap.
func (g grid) steps() ([]int, *big.Rat) {
	l := make([][]*big.Rat, len(g))
	for i := range g {
		for _, v := range g[i] {
			l[i] = append(l[i], new(big.Rat).SetInt(v))
		}
	}
	var pivots []int
	all := big.NewRat(1, 1)
	for j := range g[0] {
		k := len(pivots)
		i := k
		for i < len(l) && l[i][j].Sign() == 0 {
			i++
		}
		if i == len(l) {
			continue
		}
		if i != k {
			l[i], l[k] = l[k], l[i]
			all.Neg(all)
		}
		all.Mul(all, l[k][j])
		pivots = append(pivots, j)
		for i := k + 1; i < len(l); i++ {
			by := new(big.Rat).Quo(l[i][j], l[k][j])
			for c := range l[i] {
				l[i][c] = new(big.Rat).Sub(l[i][c], new(big.Rat).Mul(by, l[k][c]))
			}
		}
	}
	return pivots, all
}

// det is the determinant of as many rows as columns, by fractions.
func (g grid) det() *big.Int {
	if len(g) == 0 {
		return big.NewInt(1)
	}
	pivots, all := g.steps()
	if len(pivots) < len(g) {
		return new(big.Int)
	}
	return all.Num()
}
