package matrix_test

import (
	"math/big"
	"slices"
	"testing"

	"swage/api"
	"swage/integer"
	"swage/matrix"
)

// P5.4: the determinant, held against its words.
func TestDet(t *testing.T) {
	for _, m := range append(squares(t, 40, 4), squares(t, 6, 6)...) {
		if got, e := m.Det(); e != api.OK || value(got).Cmp(told(m).orders()) != 0 {
			t.Errorf("Det of %s: %s, %v", show(m), got.Text(), e)
		}
	}
}

// P5.4: of every number of rows, held against fractions of another make.
func TestDetMany(t *testing.T) {
	for _, m := range squares(t, 6, 16) {
		if got, e := m.Det(); e != api.OK || value(got).Cmp(told(m).det()) != 0 {
			t.Errorf("Det of %s: %s, %v", show(m), got.Text(), e)
		}
	}
}

// P5.4: all matrices of three rows of numbers from -1 to 1, in which pivots stand everywhere and nowhere.
func TestEvery(t *testing.T) {
	for code := range 19683 {
		var rows [3][]int64
		for i := range 9 {
			rows[i/3] = append(rows[i/3], int64(code%3-1))
			code /= 3
		}
		m := small(t, rows[:]...)
		g := told(m)
		d, e := m.Det()
		if e != api.OK || value(d).Cmp(g.orders()) != 0 {
			t.Errorf("Det of %s: %s, %v", show(m), d.Text(), e)
		}
		pivots, _ := g.steps()
		if got := slices.Collect(m.Pivots()); !slices.Equal(got, pivots) {
			t.Errorf("Pivots of %s: %v", show(m), got)
		}
		if w, e := m.Adjugate(); e != api.OK || !is(w, adjugate(g, grid.orders)) {
			t.Errorf("Adjugate of %s: %s, %v", show(m), show(w), e)
		}
	}
}

// P5.4: rows in every order of 5, so that each pivot has to be fetched from everywhere.
func TestDetOfOrders(t *testing.T) {
	order := []int{0, 1, 2, 3, 4}
	var place func(k int, sign int64)
	place = func(k int, sign int64) {
		if k == len(order) {
			rows := make([][]integer.Int, len(order))
			for i, j := range order {
				rows[i] = make([]integer.Int, len(order))
				rows[i][j] = of(int64(j + 1))
			}
			m := made(t, rows...)
			if d, e := m.Det(); e != api.OK || value(d).Int64() != 120*sign {
				t.Errorf("Det of %s: %s, %v", show(m), d.Text(), e)
			}
			return
		}
		for i := k; i < len(order); i++ {
			next := sign
			if i != k {
				next = -sign
			}
			order[i], order[k] = order[k], order[i]
			place(k+1, next)
			order[i], order[k] = order[k], order[i]
		}
	}
	place(0, 1)
}

// P5.4
func TestPivotsAndRank(t *testing.T) {
	for _, m := range some(t, 24) {
		want, _ := told(m).steps()
		if got := slices.Collect(m.Pivots()); !slices.Equal(got, want) {
			t.Errorf("Pivots of %s: %v", show(m), got)
		}
		if got := m.Rank(); got != len(want) {
			t.Errorf("Rank of %s: %d", show(m), got)
		}
	}
	var none matrix.Matrix
	if got := slices.Collect(none.Pivots()); len(got) != 0 || none.Rank() != 0 {
		t.Errorf("Pivots of none: %v", got)
	}
}

// P5.4: columns that others make up, by fractions, with noughts among them.
func TestPivotsOfSums(t *testing.T) {
	for _, x := range []struct {
		rows [][]int64
		want []int
	}{
		{[][]int64{{2, 4}, {1, 2}}, []int{0}}, {[][]int64{{0, 1, 2, 0}, {0, 2, 4, 1}}, []int{1, 3}}, {[][]int64{{0}}, nil}, {[][]int64{{0, 0, 0}, {0, 0, 0}}, nil}, {[][]int64{{0, 0}, {0, 5}}, []int{1}}, {[][]int64{{3, 2}}, []int{0}}, {[][]int64{{3}, {2}}, []int{0}}, {[][]int64{{0, 0, -3, 2}}, []int{2}}, {[][]int64{{0}, {0}, {7}}, []int{0}},
		{[][]int64{{2, 3, 0}, {2, 3, 1}}, []int{0, 2}}, {[][]int64{{2, 0, 1}, {0, 2, 1}, {2, 2, 2}}, []int{0, 1}}, {[][]int64{{0, 2, 0, 1, 3}, {0, 0, 0, 0, 0}, {0, 4, 0, 2, 5}}, []int{1, 4}}, {[][]int64{{1, 1, 1, 1}, {1, 1, 1, 2}, {1, 1, 2, 2}}, []int{0, 2, 3}}, {[][]int64{{0, 0, 1}, {0, 1, 0}, {0, 1, 1}}, []int{1, 2}},
	} {
		m := small(t, x.rows...)
		if got := slices.Collect(m.Pivots()); !slices.Equal(got, x.want) || m.Rank() != len(x.want) {
			t.Errorf("Pivots of %s: %v, Rank %d", show(m), got, m.Rank())
		}
	}
}

// R6: left early, gone through again, and once within another.
func TestPivotsAgain(t *testing.T) {
	m := small(t, []int64{0, 1, 5, 2}, []int64{0, 1, 5, 3}, []int64{0, 2, 9, 0})
	pivots := m.Pivots()
	for n := range 4 {
		var got []int
		for j := range pivots {
			if len(got) == n {
				break
			}
			got = append(got, j)
		}
		if !slices.Equal(got, []int{1, 2, 3}[:n]) {
			t.Errorf("the first %d: %v", n, got)
		}
	}
	var got []int
	for j := range pivots {
		for k := range pivots {
			got = append(got, 10*j+k)
		}
	}
	if !slices.Equal(got, []int{11, 12, 13, 21, 22, 23, 31, 32, 33}) {
		t.Errorf("one within another: %v", got)
	}
}

// adjugate is the adjugate by its words.
func adjugate(g grid, det func(grid) *big.Int) grid {
	return filled(len(g), len(g), func(i, j int) *big.Int {
		d := det(g.without(j, i))
		if (i+j)%2 != 0 {
			d = new(big.Int).Neg(d)
		}
		return d
	})
}

// P5.5: with determinants that are 0 and such that are not.
func TestAdjugate(t *testing.T) {
	for _, m := range append(squares(t, 30, 4), squares(t, 6, 8)...) {
		if w, e := m.Adjugate(); e != api.OK || !is(w, adjugate(told(m), grid.det)) {
			t.Errorf("Adjugate of %s: %s, %v", show(m), show(w), e)
		}
	}
	for _, x := range []struct{ m, want [][]int64 }{
		{[][]int64{{7}}, [][]int64{{1}}}, {[][]int64{{0}}, [][]int64{{1}}}, {[][]int64{{1, 2}, {3, 4}}, [][]int64{{4, -2}, {-3, 1}}}, {[][]int64{{2, 4}, {1, 2}}, [][]int64{{2, -4}, {-1, 2}}}, {[][]int64{{0, 1}, {1, 0}}, [][]int64{{0, -1}, {-1, 0}}}, {[][]int64{{0, 0}, {0, 0}}, [][]int64{{0, 0}, {0, 0}}},
	} {
		m, want := small(t, x.m...), small(t, x.want...)
		if w, e := m.Adjugate(); e != api.OK || show(w) != show(want) {
			t.Errorf("Adjugate of %s: %s, %v", show(m), show(w), e)
		}
	}
}

// P5.5: what Inverse tells of a matrix, held against its words and against its determinant by another make.
func inverted(t *testing.T, m matrix.Matrix) {
	t.Helper()
	g := told(m)
	w, d, e := m.Inverse()
	if g.det().Sign() == 0 {
		if isNone(t, "Inverse", w); d.Sign() != 0 || e != api.ErrFlat {
			t.Errorf("Inverse of %s: %s, %v", show(m), d.Text(), e)
		}
		return
	}
	common, n := value(d), len(g)
	for _, l := range told(w) {
		for _, x := range l {
			common.GCD(nil, nil, common, new(big.Int).Abs(x))
		}
	}
	if e != api.OK || d.Sign() <= 0 || w.Rows() != n || w.Cols() != n || common.Cmp(big.NewInt(1)) != 0 {
		t.Errorf("Inverse of %s: %s, %s, %v, in common %v", show(m), show(w), d.Text(), e, common)
		return
	}
	for i := range n {
		for j := range n {
			want := new(big.Int)
			if i == j {
				want = value(d)
			}
			if product(g, told(w), i, j).Cmp(want) != 0 {
				t.Errorf("Inverse of %s: %s, %s: wrong at %d, %d", show(m), show(w), d.Text(), i, j)
			}
		}
	}
}

// P5.5
func TestInverse(t *testing.T) {
	for _, m := range append(squares(t, 40, 4), squares(t, 6, 16)...) {
		inverted(t, m)
	}
	for _, x := range []struct {
		m, w [][]int64
		d    int64
	}{
		{[][]int64{{1, 2}, {3, 4}}, [][]int64{{-4, 2}, {3, -1}}, 2}, {[][]int64{{-3}}, [][]int64{{-1}}, 3}, {[][]int64{{3}}, [][]int64{{1}}, 3}, {[][]int64{{1}}, [][]int64{{1}}, 1}, {[][]int64{{-1}}, [][]int64{{-1}}, 1}, {[][]int64{{2, 0}, {0, 4}}, [][]int64{{2, 0}, {0, 1}}, 4}, {[][]int64{{6, 0}, {0, 6}}, [][]int64{{1, 0}, {0, 1}}, 6}, {[][]int64{{0, 1}, {1, 0}}, [][]int64{{0, 1}, {1, 0}}, 1}, {[][]int64{{0, -2}, {-2, 0}}, [][]int64{{0, -1}, {-1, 0}}, 2},
		{[][]int64{{1, 0, 0}, {1, 1, 1}, {1, -1, 1}}, [][]int64{{2, 0, 0}, {0, 1, -1}, {-2, 1, 1}}, 2}, {[][]int64{{0, 0, 5}, {0, 5, 0}, {5, 0, 0}}, [][]int64{{0, 0, 1}, {0, 1, 0}, {1, 0, 0}}, 5},
	} {
		m, want := small(t, x.m...), small(t, x.w...)
		if w, d, e := m.Inverse(); e != api.OK || show(w) != show(want) || value(d).Int64() != x.d {
			t.Errorf("Inverse of %s: %s, %s, %v", show(m), show(w), d.Text(), e)
		}
	}
}

// P5.5: matrices with much in common, so that the adjugate is not the inverse yet.
func TestInverseInCommon(t *testing.T) {
	for _, m := range squares(t, 16, 4) {
		for _, c := range []integer.Int{of(-1), of(12), of(-1 << 40), integer.Make(false, []uint32{0, 0, 6})} {
			inverted(t, m.Scale(c))
		}
	}
}

// solved asks that m turns what Solve answers into b.
func solved(t *testing.T, m matrix.Matrix, b []integer.Int) {
	t.Helper()
	g := told(m)
	got, e := m.Solve(b)
	if g.det().Sign() == 0 {
		if len(got) != 0 || e != api.ErrFlat {
			t.Errorf("Solve of %s: %d fractions, %v", show(m), len(got), e)
		}
		return
	}
	if e != api.OK || len(got) != len(b) {
		t.Errorf("Solve of %s: %d fractions, %v", show(m), len(got), e)
		return
	}
	for i, l := range g {
		sum := new(big.Rat)
		for j, x := range l {
			part := new(big.Rat).SetFrac(value(got[j].Num()), value(got[j].Den()))
			sum.Add(sum, part.Mul(part, new(big.Rat).SetInt(x)))
		}
		if sum.Cmp(new(big.Rat).SetInt(value(b[i]))) != 0 {
			t.Errorf("Solve of %s: wrong at %d", show(m), i)
		}
	}
}

// P5.5, P5.9
func TestSolve(t *testing.T) {
	source := maker(99)
	for _, m := range append(squares(t, 30, 4), squares(t, 6, 16)...) {
		for limbs := range 4 {
			solved(t, m, source.lists(1, m.Rows(), limbs)[0])
		}
		solved(t, m, make([]integer.Int, m.Rows()))
	}
	a := small(t, []int64{1, 2}, []int64{3, 4})
	got, e := a.Solve(list(1, 0))
	if e != api.OK || len(got) != 2 || got[0].Text() != "-2" || got[1].Text() != "3/2" {
		t.Errorf("Solve: %v, %v", got, e)
	}
}

// P5.4, P5.5: of what is not square, and of none, all is ErrRange; the list's length goes ahead of the determinant.
func TestNotSquare(t *testing.T) {
	for _, m := range append(some(t, 3), matrix.Matrix{}) {
		if m.Rows() == m.Cols() && m.Rows() > 0 {
			continue
		}
		d, e1 := m.Det()
		w, e2 := m.Adjugate()
		v, by, e3 := m.Inverse()
		if e1 != api.ErrRange || e2 != api.ErrRange || e3 != api.ErrRange || d.Sign() != 0 || by.Sign() != 0 {
			t.Errorf("%s: %v, %v, %v", show(m), e1, e2, e3)
		}
		isNone(t, "Adjugate", w)
		isNone(t, "Inverse", v)
		for _, n := range []int{0, m.Rows(), m.Cols()} {
			if l, e := m.Solve(make([]integer.Int, n)); e != api.ErrRange || len(l) != 0 {
				t.Errorf("Solve of %s: %v", show(m), e)
			}
		}
	}
	for _, m := range squares(t, 6, 4) {
		for n := range 18 {
			if l, e := m.Solve(make([]integer.Int, n)); n != m.Rows() && (e != api.ErrRange || len(l) != 0) {
				t.Errorf("Solve of %s, with %d numbers: %v", show(m), n, e)
			}
		}
		if l, e := m.Solve(nil); e != api.ErrRange || len(l) != 0 {
			t.Errorf("Solve of %s, with none: %v", show(m), e)
		}
	}
}
