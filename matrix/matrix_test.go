package matrix_test

import (
	"math"
	"math/big"
	"slices"
	"testing"

	"swage/api"
	"swage/integer"
	"swage/matrix"
)

// isNone asks that a matrix has no rows and no columns.
func isNone(t *testing.T, what string, m matrix.Matrix) {
	t.Helper()
	if m.Rows() != 0 || m.Cols() != 0 || !m.Same(matrix.Matrix{}) {
		t.Errorf("%s: not none: %s", what, show(m))
	}
}

// P5.1, P5.2: every shape that may be, and one more.
func TestNewShapes(t *testing.T) {
	m := maker(7)
	for rows := range api.MaxSize + 3 {
		for cols := range api.MaxSize + 3 {
			lists := m.lists(rows, cols, 2)
			want := api.OK
			switch {
			case rows == 0 || cols == 0:
				want = api.ErrArg
			case rows > api.MaxSize || cols > api.MaxSize:
				want = api.ErrLong
			}
			got, e := matrix.New(lists...)
			if e != want {
				t.Errorf("New of %d rows, %d columns: %v", rows, cols, e)
			}
			if want != api.OK {
				isNone(t, "New", got)
				continue
			}
			if got.Rows() != rows || got.Cols() != cols || !is(got, filled(rows, cols, func(i, j int) *big.Int { return value(lists[i][j]) })) {
				t.Errorf("New of %d rows, %d columns: %s", rows, cols, show(got))
			}
		}
	}
}

// P5.1, R2
func TestNewWrong(t *testing.T) {
	one, two, none, much := list(1), list(1, 2), list(), list(make([]int64, 17)...)
	most := list(make([]int64, 16)...)
	times := func(n int, l ...[]integer.Int) [][]integer.Int { return slices.Repeat(l, n) }
	for i, x := range []struct {
		rows [][]integer.Int
		e    api.Errno
	}{
		{nil, api.ErrArg}, {[][]integer.Int{}, api.ErrArg}, {[][]integer.Int{nil}, api.ErrArg}, {[][]integer.Int{none}, api.ErrArg}, {[][]integer.Int{nil, nil}, api.ErrArg}, {[][]integer.Int{none, one}, api.ErrArg}, {[][]integer.Int{nil, much}, api.ErrArg}, {times(17, nil), api.ErrArg}, {append(times(1, nil), times(16, one)...), api.ErrArg},
		{[][]integer.Int{much}, api.ErrLong}, {[][]integer.Int{much, one}, api.ErrLong}, {[][]integer.Int{much, much}, api.ErrLong}, {times(17, one), api.ErrLong}, {times(1000, one), api.ErrLong}, {append(times(16, one), two), api.ErrLong}, {append(times(16, one), nil), api.ErrLong}, {append(times(1, one), times(16, two)...), api.ErrLong}, {times(17, much), api.ErrLong},
		{[][]integer.Int{one, two}, api.ErrRange}, {[][]integer.Int{two, one}, api.ErrRange}, {[][]integer.Int{two, two, one}, api.ErrRange}, {[][]integer.Int{two, one, two}, api.ErrRange}, {[][]integer.Int{one, nil}, api.ErrRange}, {[][]integer.Int{one, none, one}, api.ErrRange}, {[][]integer.Int{one, much}, api.ErrRange}, {[][]integer.Int{most, much}, api.ErrRange}, {append(times(15, most), most[1:]), api.ErrRange},
		{[][]integer.Int{one}, api.OK}, {times(16, most), api.OK}, {times(16, one), api.OK}, {times(1, most), api.OK}, {times(2, two), api.OK},
	} {
		m, e := matrix.New(x.rows...)
		if e != x.e || (e == api.OK) != (m.Rows() > 0) {
			t.Errorf("%d: %v, %s", i, e, show(m))
		}
		if e != api.OK {
			isNone(t, "New", m)
		}
	}
}

// P5.1
func TestIdentity(t *testing.T) {
	for _, n := range []int{math.MinInt, -17, -2, -1, 0} {
		m, e := matrix.Identity(n)
		if isNone(t, "Identity", m); e != api.ErrArg {
			t.Errorf("Identity(%d): %v", n, e)
		}
	}
	for _, n := range []int{17, 18, 1 << 20, math.MaxInt} {
		m, e := matrix.Identity(n)
		if isNone(t, "Identity", m); e != api.ErrLong {
			t.Errorf("Identity(%d): %v", n, e)
		}
	}
	for n := 1; n <= 16; n++ {
		m, e := matrix.Identity(n)
		want := filled(n, n, func(i, j int) *big.Int { return big.NewInt(int64(1 - min(1, max(i-j, j-i)))) })
		if e != api.OK || m.Rows() != n || m.Cols() != n || !is(m, want) {
			t.Errorf("Identity(%d): %v, %s", n, e, show(m))
		}
	}
}

// P5.2
func TestPlaces(t *testing.T) {
	for _, m := range append(some(t, 2), matrix.Matrix{}) {
		rows, cols := m.Rows(), m.Cols()
		for _, i := range []int{math.MinInt, -1, 0, rows - 1, rows, rows + 1, math.MaxInt} {
			l, e := m.Row(i)
			if there := i >= 0 && i < rows; there != (e == api.OK) || !there && (e != api.ErrRange || len(l) != 0) || there && len(l) != cols {
				t.Errorf("%s: Row(%d): %d numbers, %v", show(m), i, len(l), e)
			}
			for _, j := range []int{math.MinInt, -1, 0, cols - 1, cols, cols + 1, math.MaxInt} {
				x, e := m.At(i, j)
				if there := i >= 0 && i < rows && j >= 0 && j < cols; there != (e == api.OK) || !there && (e != api.ErrRange || x.Sign() != 0) || there && x.Cmp(l[j]) != 0 {
					t.Errorf("%s: At(%d, %d): %s, %v", show(m), i, j, x.Text(), e)
				}
			}
		}
	}
}

// P5.2
func TestSame(t *testing.T) {
	all := append(some(t, 4), matrix.Matrix{}, small(t, []int64{0, 0}), small(t, []int64{0}, []int64{0}), small(t, []int64{0, 0}, []int64{0, 0}))
	for i, m := range all {
		for k, o := range all {
			if want := show(m) == show(o); m.Same(o) != want {
				t.Errorf("%d, %d: %s, %s: %t", i, k, show(m), show(o), !want)
			}
		}
		lists := make([][]integer.Int, m.Rows())
		for k := range lists {
			lists[k], _ = m.Row(k)
		}
		if again, _ := matrix.New(lists...); !m.Same(again) || !again.Same(m) {
			t.Errorf("%s: not the same as one made again", show(m))
		}
		for k := range lists {
			for j := range m.Cols() {
				was := lists[k][j]
				lists[k][j] = was.Add(of(1))
				if other := made(t, lists...); m.Same(other) || other.Same(m) {
					t.Errorf("%s: the same as %s", show(m), show(other))
				}
				lists[k][j] = was
			}
		}
	}
	noughts, other := made(t, []integer.Int{{}, of(0)}), made(t, []integer.Int{integer.Make(true, nil), integer.Make(false, []uint32{0, 0})})
	if !noughts.Same(other) {
		t.Error("noughts are not the same")
	}
}
