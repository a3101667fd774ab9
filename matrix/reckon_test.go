package matrix_test

import (
	"math"
	"math/big"
	"testing"

	"swage/api"
	"swage/integer"
	"swage/matrix"
)

// P5.3
func TestPlus(t *testing.T) {
	all := append(some(t, 4), matrix.Matrix{})
	for _, m := range all {
		for _, o := range all {
			got, e := m.Plus(o)
			if m.Rows() != o.Rows() || m.Cols() != o.Cols() {
				if isNone(t, "Plus", got); e != api.ErrRange {
					t.Errorf("%s plus %s: %v", show(m), show(o), e)
				}
				continue
			}
			a, b := told(m), told(o)
			want := filled(m.Rows(), m.Cols(), func(i, j int) *big.Int { return new(big.Int).Add(a[i][j], b[i][j]) })
			if e != api.OK || !is(got, want) {
				t.Errorf("%s plus %s: %s, %v", show(m), show(o), show(got), e)
			}
		}
	}
}

// P5.3
func TestTimes(t *testing.T) {
	all := append(some(t, 4), matrix.Matrix{})
	for _, m := range all {
		for _, o := range all {
			got, e := m.Times(o)
			if m.Cols() != o.Rows() || m.Cols() == 0 {
				if isNone(t, "Times", got); e != api.ErrRange {
					t.Errorf("%s times %s: %v", show(m), show(o), e)
				}
				continue
			}
			a, b := told(m), told(o)
			want := filled(m.Rows(), o.Cols(), func(i, j int) *big.Int { return product(a, b, i, j) })
			if e != api.OK || !is(got, want) {
				t.Errorf("%s times %s: %s, %v", show(m), show(o), show(got), e)
			}
		}
	}
}

// P5.3
func TestScaleAndTurn(t *testing.T) {
	by := []integer.Int{{}, of(1), of(-1), of(2), of(math.MinInt64), integer.Make(true, []uint32{top, 0, 5})}
	for _, m := range append(some(t, 8), matrix.Matrix{}) {
		g := told(m)
		if got := m.Turn(); got.Rows() != m.Cols() || got.Cols() != m.Rows() || !is(got, filled(m.Cols(), m.Rows(), func(i, j int) *big.Int { return g[j][i] })) {
			t.Errorf("Turn of %s: %s", show(m), show(got))
		}
		for _, c := range by {
			want := filled(m.Rows(), m.Cols(), func(i, j int) *big.Int { return new(big.Int).Mul(g[i][j], value(c)) })
			if got := m.Scale(c); !is(got, want) {
				t.Errorf("%s times %s: %s", show(m), c.Text(), show(got))
			}
		}
	}
}

// P5.3
func TestApply(t *testing.T) {
	for _, m := range append(some(t, 4), matrix.Matrix{}) {
		g := told(m)
		source := maker(5)
		for n := range api.MaxSize + 2 {
			v := source.lists(1, n, n%3)[0]
			got, e := m.Apply(v)
			if n != m.Cols() || n == 0 {
				if len(got) != 0 || e != api.ErrRange {
					t.Errorf("%s, applied to %d numbers: %d numbers, %v", show(m), n, len(got), e)
				}
				continue
			}
			column := filled(n, 1, func(i, _ int) *big.Int { return value(v[i]) })
			want := make([]*big.Int, m.Rows())
			for i := range want {
				want[i] = product(g, column, i, 0)
			}
			if e != api.OK || !same(values(got), want) {
				t.Errorf("%s, applied to %s: %v, %v", show(m), column.text(), values(got), e)
			}
		}
		if got, e := m.Apply(nil); len(got) != 0 || e != api.ErrRange {
			t.Errorf("%s, applied to none: %v", show(m), e)
		}
	}
}

// P5.3: none.
func TestReckonNone(t *testing.T) {
	var none matrix.Matrix
	got, e := none.Plus(none)
	if isNone(t, "Plus", got); e != api.OK {
		t.Errorf("none plus none: %v", e)
	}
	isNone(t, "Scale", none.Scale(of(5)))
	isNone(t, "Turn", none.Turn())
	if _, e := none.Times(none); e != api.ErrRange {
		t.Errorf("none times none: %v", e)
	}
}

// P5.3: the chapter's examples.
func TestReckonExamples(t *testing.T) {
	a, b := small(t, []int64{1, 2}, []int64{3, 4}), small(t, []int64{2, 4}, []int64{1, 2})
	product, e1 := a.Times(b)
	sum, e2 := a.Plus(b)
	v, e3 := a.Apply(list(1, 1))
	if show(product) != "[[4 8] [10 20]]" || show(sum) != "[[3 6] [4 6]]" || show(a.Turn()) != "[[1 3] [2 4]]" || show(a.Scale(of(2))) != "[[2 4] [6 8]]" || !same(values(v), values(list(3, 7))) || e1 != api.OK || e2 != api.OK || e3 != api.OK {
		t.Errorf("%s, %s, %s, %s", show(product), show(sum), show(a.Turn()), show(a.Scale(of(2))))
	}
}
