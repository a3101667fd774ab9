package scheme_test

import (
	"math/big"
	"slices"
	"testing"

	"swage/api"
	"swage/integer"
	"swage/matrix"
	"swage/scheme"
)

// P7.3, P7.4: the chapter's examples, and others written out.
func TestMatricesWrittenOut(t *testing.T) {
	for _, x := range []struct {
		k1, k2                                int
		l                                     []api.Point
		left, right, full, det, inverse, over string
	}{
		{2, 2, pts(0, 1, 1, 1, 1, 0), "[[1 0] [1 1] [0 1]]", "[[1 0] [1 1] [0 1]]", "[[1 0 0] [1 1 1] [0 0 1]]", "1", "[[1 0 0] [-1 1 -1] [0 0 1]]", "1"},
		{2, 2, pts(0, 1, 1, 1, -1, 1), "[[1 0] [1 1] [1 -1]]", "[[1 0] [1 1] [1 -1]]", "[[1 0 0] [1 1 1] [1 -1 1]]", "2", "[[2 0 0] [0 1 -1] [-2 1 1]]", "2"},
		{1, 1, pts(2, 4), "[[1]]", "[[1]]", "[[1]]", "1", "[[1]]", "1"},
		{1, 2, pts(1, 2, 2, 0), "[[1] [1]]", "[[2 1] [0 2]]", "[[2 1] [0 2]]", "4", "[[2 -1] [0 2]]", "4"},
		{2, 1, pts(1, 2, 2, 0), "[[2 1] [0 2]]", "[[1] [1]]", "[[2 1] [0 2]]", "4", "[[2 -1] [0 2]]", "4"},
		{2, 1, pts(1, 0, 0, 1), "[[0 1] [1 0]]", "[[1] [1]]", "[[0 1] [1 0]]", "-1", "[[0 1] [1 0]]", "1"},
		{3, 1, pts(2, 1, -3, 2, 1, 0), "[[1 2 4] [4 -6 9] [0 0 1]]", "[[1] [1] [1]]", "[[1 2 4] [4 -6 9] [0 0 1]]", "-14", "[[6 2 -42] [4 -1 -7] [0 0 14]]", "14"},
		{1, 2, pts(16, 16, -16, 16), "[[1] [1]]", "[[16 16] [16 -16]]", "[[16 16] [16 -16]]", "-512", "[[1 1] [1 -1]]", "32"},
	} {
		s := made(t, x.k1, x.k2, x.l)
		w, d := s.Inverse()
		for _, y := range [][2]string{{show(s.Left()), x.left}, {show(s.Right()), x.right}, {show(s.Full()), x.full}, {value(s.Det()).String(), x.det}, {show(w), x.inverse}, {value(d).String(), x.over}} {
			if y[0] != y[1] {
				t.Errorf("%d, %d, %v: %s, not %s", x.k1, x.k2, x.l, y[0], y[1])
			}
		}
	}
}

// P7.3: of all split counts, held against powers of another make.
func TestMatrices(t *testing.T) {
	for _, x := range some(t, 6, parts) {
		n := x.k1 + x.k2 - 1
		for _, y := range []struct {
			m matrix.Matrix
			k int
		}{{x.s.Left(), x.k1}, {x.s.Right(), x.k2}, {x.s.Full(), n}} {
			if y.m.Rows() != n || y.m.Cols() != y.k || show(y.m) != evaluated(x.l, y.k).text() {
				t.Errorf("%d, %d, %v, %d columns: %s", x.k1, x.k2, x.l, y.k, show(y.m))
			}
		}
	}
}

// P7.4
func TestDet(t *testing.T) {
	for _, x := range some(t, 9, parts) {
		if got := value(x.s.Det()); got.Cmp(spread(x.l)) != 0 {
			t.Errorf("Det of %v: %v, not %v", x.l, got, spread(x.l))
		}
	}
}

// P7.4: two points changed about turn the sign of Det.
func TestDetOrder(t *testing.T) {
	for _, x := range some(t, 1, 4) {
		for j := range x.l {
			for i := range j {
				l := slices.Clone(x.l)
				l[i], l[j] = l[j], l[i]
				if got := made(t, x.k1, x.k2, l).Det(); got.Cmp(x.s.Det().Neg()) != 0 {
					t.Errorf("Det of %v: %s", l, got.Text())
				}
			}
		}
	}
}

// P7.4: the matrix and the number are told by what chapter 5 says of both, and are what matrix makes of Full.
func TestInverse(t *testing.T) {
	for _, x := range some(t, 2, parts) {
		w, d := x.s.Inverse()
		over := value(d)
		n, full := len(x.l), evaluated(x.l, len(x.l))
		if full.times(told(w)).text() != diagonal(n, over).text() || told(w).times(full).text() != diagonal(n, over).text() {
			t.Errorf("Inverse of %v: %s, %v", x.l, show(w), over)
		}
		common := new(big.Int).Set(over)
		for _, l := range told(w) {
			for _, v := range l {
				common.GCD(nil, nil, common, new(big.Int).Abs(v))
			}
		}
		if over.Sign() != 1 || common.Cmp(big.NewInt(1)) != 0 {
			t.Errorf("Inverse of %v: over %v, and %v divides all", x.l, over, common)
		}
		m, c, e := x.s.Full().Inverse()
		if !w.Same(m) || d.Cmp(c) != 0 || e != api.OK {
			t.Errorf("Inverse of Full of %v: %s, %s, %v", x.l, show(m), c.Text(), e)
		}
	}
}

// applied is what a matrix makes of coefficients.
func applied(t *testing.T, m matrix.Matrix, l []integer.Int) []integer.Int {
	t.Helper()
	out, e := m.Apply(l)
	if e != api.OK {
		t.Fatalf("%s, applied to %d numbers: %v", show(m), len(l), e)
	}
	return out
}

// convolved are the coefficients of the product of both, by numbers of another make.
func convolved(a, b []integer.Int) []*big.Int {
	out := make([]*big.Int, len(a)+len(b)-1)
	for m := range out {
		out[m] = new(big.Int)
	}
	for i, x := range values(a) {
		for j, y := range values(b) {
			out[i+j].Add(out[i+j], new(big.Int).Mul(x, y))
		}
	}
	return out
}

// P7.6, P1: the products of both operands' values are the product's values, and Inverse leads back.
func TestProducts(t *testing.T) {
	source := maker(41)
	for i, x := range some(t, 6, parts) {
		a, b := source.numbers(x.k1, i%3), source.numbers(x.k2, i%4)
		want := convolved(a, b)
		left, right := applied(t, x.s.Left(), a), applied(t, x.s.Right(), b)
		products := make([]integer.Int, len(left))
		for k := range products {
			products[k] = left[k].Mul(right[k])
		}
		column := make(grid, len(want))
		for k, v := range want {
			column[k] = []*big.Int{v}
		}
		if got := (grid{values(products)}).text(); got != turned(evaluated(x.l, len(x.l)).times(column)).text() {
			t.Errorf("%s: products %s", x.s.Text(), got)
		}
		w, d := x.s.Inverse()
		for m, v := range values(applied(t, w, products)) {
			if v.Cmp(new(big.Int).Mul(want[m], value(d))) != 0 {
				t.Errorf("%s: the coefficient %d is %v, over %s, not %v", x.s.Text(), m, v, d.Text(), want[m])
			}
		}
	}
}

// turned is one column as one row.
func turned(g grid) grid {
	out := make(grid, 1)
	for _, l := range g {
		out[0] = append(out[0], l[0])
	}
	return out
}

// P7.7: never 0, the determinant of Full, and bounded.
func TestDetIsOfFull(t *testing.T) {
	for _, x := range some(t, 2, parts) {
		n := len(x.l)
		bound := new(big.Int).Exp(big.NewInt(2*most*most), big.NewInt(int64(n*(n-1)/2)), nil)
		d, e := x.s.Full().Det()
		got := value(x.s.Det())
		if got.Sign() == 0 || d.Cmp(x.s.Det()) != 0 || e != api.OK || got.Cmp(evaluated(x.l, n).det()) != 0 || got.CmpAbs(bound) > 0 {
			t.Errorf("Det of %v: %v", x.l, got)
		}
	}
	if got := made(t, 1, 2, pts(-16, 16, 16, 16)).Det().Text(); got != "512" {
		t.Errorf("the bound is not reached: %s", got)
	}
}

// P7.8: one point's coordinates times c, at each place.
func TestPointsTurned(t *testing.T) {
	for _, x := range some(t, 2, 5) {
		full := told(x.s.Full())
		for k, p := range x.l {
			for c := -most; c <= most; c++ {
				if c == 0 || !allowed(c*p.A) || !allowed(c*p.B) {
					continue
				}
				l := slices.Clone(x.l)
				l[k] = pt(c*p.A, c*p.B)
				want := slices.Clone(full)
				want[k] = scaled(full[k], c, len(l)-1)
				s := made(t, x.k1, x.k2, l)
				if show(s.Full()) != want.text() || !slices.Equal(s.Points(), l) || s.Same(x.s) != (c == 1) {
					t.Errorf("%v times %d at %d: %s", x.l, c, k, show(s.Full()))
				}
			}
		}
	}
}

// scaled are numbers times c to the e.
func scaled(l []*big.Int, c, e int) []*big.Int {
	factor := new(big.Int).Exp(big.NewInt(int64(c)), big.NewInt(int64(e)), nil)
	var out []*big.Int
	for _, v := range l {
		out = append(out, new(big.Int).Mul(v, factor))
	}
	return out
}

// P7.8: points that are bad stay so, and those that are not, too.
func TestBadPointsTurned(t *testing.T) {
	for _, x := range []struct {
		k1, k2 int
		l      []api.Point
		want   api.Errno
	}{
		{2, 2, pts(0, 1, 1, 1, 1, 0), api.OK}, {2, 2, pts(1, 1, 2, 1, 1, 1), api.ErrBadPoints}, {2, 2, pts(0, 1, 0, 0, 1, 1), api.ErrBadPoints}, {2, 2, pts(1, 0, 1, 2, 1, 0), api.ErrBadPoints}, {2, 2, pts(1, 2, 1, 1), api.ErrBadPoints}, {1, 1, pts(0, 0), api.ErrBadPoints},
	} {
		for k, p := range x.l {
			for _, c := range []int{-8, -3, -2, -1, 1, 2, 5, 8} {
				l := slices.Clone(x.l)
				l[k] = pt(c*p.A, c*p.B)
				if _, e := scheme.New(x.k1, x.k2, l); e != x.want {
					t.Errorf("New(%d, %d, %v): %v", x.k1, x.k2, l, e)
				}
			}
		}
	}
}
