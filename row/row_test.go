package row_test

import (
	"cmp"
	"math"
	"math/big"
	"testing"

	"swage/api"
	"swage/integer"
	"swage/row"
)

// P4.1
func TestOf(t *testing.T) {
	for _, l := range [][]int64{nil, {}, {0}, {5}, {0, 0, 0}, {1, -2, 3}, {math.MinInt64, math.MaxInt64, -1, 0, 1}, {top, -top, 1 << 32, -1 << 32}} {
		if got := row.Of(l...); !is(got, l...) {
			t.Errorf("Of %v: %s", l, show(got))
		}
	}
	if got := row.Of(); len(got) != 0 {
		t.Errorf("Of none: %s", show(got))
	}
	long := make([]int64, 3*api.MaxCoeffs)
	for i := range long {
		long[i] = int64(i - api.MaxCoeffs)
	}
	if !is(row.Of(long...), long...) {
		t.Error("Of many")
	}
}

// P4.1
func TestZero(t *testing.T) {
	for _, n := range []int{0, 1, 2, 3, 100, api.MaxCoeffs - 1, api.MaxCoeffs} {
		if got, e := row.Zero(n); !is(got, make([]int64, n)...) || e != api.OK {
			t.Errorf("Zero(%d): %d numbers, %v", n, len(got), e)
		}
	}
	for _, n := range []int{-1, -2, -api.MaxCoeffs, math.MinInt, api.MaxCoeffs + 1, 2 * api.MaxCoeffs, math.MaxInt} {
		if got, e := row.Zero(n); len(got) != 0 || e != api.ErrArg {
			t.Errorf("Zero(%d): %d numbers, %v", n, len(got), e)
		}
	}
}

// P4.1
func TestUnit(t *testing.T) {
	for _, n := range []int{0, 1, 2, 3, 40, api.MaxCoeffs} {
		for _, k := range []int{math.MinInt, -n, -2, -1, 0, 1, 2, n / 2, n - 2, n - 1, n, n + 1, api.MaxCoeffs, math.MaxInt} {
			got, e := row.Unit(n, k)
			if k < 0 || k >= n {
				if len(got) != 0 || e != api.ErrRange {
					t.Errorf("Unit(%d, %d): %d numbers, %v", n, k, len(got), e)
				}
				continue
			}
			want := make([]int64, n)
			want[k] = 1
			if !is(got, want...) || e != api.OK {
				t.Errorf("Unit(%d, %d): %d numbers, %v", n, k, len(got), e)
			}
		}
	}
	for _, n := range []int{-1, math.MinInt, api.MaxCoeffs + 1, math.MaxInt} {
		for _, k := range []int{math.MinInt, -1, 0, 1, n - 1, n, n + 1, math.MaxInt} { // a length that may not be goes ahead of the place
			if got, e := row.Unit(n, k); len(got) != 0 || e != api.ErrArg {
				t.Errorf("Unit(%d, %d): %d numbers, %v", n, k, len(got), e)
			}
		}
	}
}

// order is how two rows stand, told by numbers of another make.
func order(a, b []integer.Int) int {
	if c := cmp.Compare(len(a), len(b)); c != 0 {
		return c
	}
	for i := range a {
		if c := value(a[i]).Cmp(value(b[i])); c != 0 {
			return c
		}
	}
	return 0
}

// P4.2, P4.4
func TestSameAndCmp(t *testing.T) {
	all := append(rows(40), rows(3)...)
	for _, a := range all {
		for _, b := range all {
			want := order(a, b)
			if got := row.Cmp(a, b); got != want {
				t.Errorf("Cmp(%s, %s): %d", show(a), show(b), got)
			}
			if got := row.Same(a, b); got != (want == 0) {
				t.Errorf("Same(%s, %s): %t", show(a), show(b), got)
			}
		}
	}
}

// P4.4
func TestCmp(t *testing.T) {
	for _, x := range []struct {
		a, b []integer.Int
		want int
	}{
		{row.Of(5), row.Of(1, 1), -1}, {row.Of(1, -2), row.Of(1, 3), -1}, {nil, []integer.Int{}, 0}, {nil, row.Of(-1), -1}, {row.Of(math.MaxInt64), row.Of(0, 0), -1}, {row.Of(0), row.Of(math.MinInt64), 1},
		{row.Of(1, 2, 3), row.Of(1, 2, 3), 0}, {row.Of(1, 2, 3), row.Of(1, 2, 4), -1}, {row.Of(2, 0, 0), row.Of(1, 9, 9), 1}, {row.Of(-2, 0), row.Of(-1, 0), -1}, {row.Of(-5), row.Of(4), -1}, {row.Of(0, 1), row.Of(0, -1), 1}, {row.Of(1<<32, 0), row.Of(top, 0), 1},
		{[]integer.Int{integer.Make(true, nil)}, row.Of(0), 0}, {[]integer.Int{integer.Make(false, []uint32{7, 0})}, row.Of(7), 0},
	} {
		if got, back := row.Cmp(x.a, x.b), row.Cmp(x.b, x.a); got != x.want || back != -x.want {
			t.Errorf("Cmp(%s, %s): %d, the other way %d", show(x.a), show(x.b), got, back)
		}
	}
}

// P4.2
func TestIsZero(t *testing.T) {
	for _, a := range rows(40) {
		want := true
		for _, v := range values(a) {
			want = want && v.Sign() == 0
		}
		if got := row.IsZero(a); got != want {
			t.Errorf("IsZero(%s): %t", show(a), got)
		}
	}
	long, _ := row.Zero(api.MaxCoeffs)
	if !row.IsZero(long) || !row.IsZero(nil) {
		t.Error("IsZero of noughts")
	}
	for _, k := range []int{0, 1, api.MaxCoeffs - 1} {
		if one, _ := row.Unit(api.MaxCoeffs, k); row.IsZero(one) || row.IsZero(row.Neg(one)) {
			t.Errorf("IsZero of a 1 at %d", k)
		}
	}
}

// P4.3
func TestWidest(t *testing.T) {
	for _, a := range rows(60) {
		want := new(big.Int)
		for _, v := range values(a) {
			if v.CmpAbs(want) > 0 {
				want.Abs(v)
			}
		}
		if got := row.Widest(a); value(got).Cmp(want) != 0 {
			t.Errorf("Widest(%s): %s", show(a), got.Text())
		}
	}
	for _, x := range []struct {
		a    []integer.Int
		want string
	}{{nil, "0"}, {row.Of(0, 0), "0"}, {row.Of(-5, 3), "5"}, {row.Of(-5, 6), "6"}, {row.Of(3, -5, 4), "5"}, {row.Of(-1), "1"}, {row.Of(5, -5), "5"}, {row.Of(math.MaxInt64, math.MinInt64, 1), "9223372036854775808"}} {
		if got := row.Widest(x.a).Text(); got != x.want {
			t.Errorf("Widest(%s): %s", show(x.a), got)
		}
	}
}
