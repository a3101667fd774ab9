package row_test

import (
	"math"
	"math/big"
	"testing"

	"swage/api"
	"swage/integer"
	"swage/row"
)

// P4.3
func TestOver(t *testing.T) {
	for _, x := range []struct {
		a    []int64
		c    int64
		want []int64
		e    api.Errno
	}{
		{[]int64{4, -6}, -2, []int64{-2, 3}, api.OK}, {[]int64{4, -6}, 4, nil, api.ErrExact}, {[]int64{4}, 0, nil, api.ErrArg}, {nil, 0, nil, api.ErrArg}, {[]int64{0, 0}, 0, nil, api.ErrArg}, {nil, 7, nil, api.OK}, {[]int64{0, 0}, -7, []int64{0, 0}, api.OK},
		{[]int64{5}, 1, []int64{5}, api.OK}, {[]int64{5, -3}, -1, []int64{-5, 3}, api.OK}, {[]int64{4, 6, 7}, 2, nil, api.ErrExact}, {[]int64{7, 6, 4}, 2, nil, api.ErrExact}, {[]int64{6, 7, 4}, 2, nil, api.ErrExact}, {[]int64{-7}, 2, nil, api.ErrExact}, {[]int64{-7}, -2, nil, api.ErrExact}, {[]int64{1}, 2, nil, api.ErrExact}, {[]int64{2}, -4, nil, api.ErrExact},
		{[]int64{math.MinInt64, 1 << 32}, 1 << 32, []int64{-1 << 31, 1}, api.OK}, {[]int64{math.MinInt64}, math.MinInt64, []int64{1}, api.OK}, {[]int64{top, 3 * top}, -top, []int64{-1, -3}, api.OK}, {[]int64{1 << 32, top}, 1 << 32, nil, api.ErrExact},
	} {
		if got, e := row.Over(row.Of(x.a...), of(x.c)); !is(got, x.want...) || e != x.e {
			t.Errorf("Over(%v, %d): %s, %v", x.a, x.c, show(got), e)
		}
	}
}

// quotients are the numbers of a divided by c, or what is wrong, told by numbers of another make.
func quotients(a []integer.Int, c *big.Int) ([]*big.Int, api.Errno) {
	if c.Sign() == 0 {
		return nil, api.ErrArg
	}
	l := values(a)
	for _, v := range l {
		if _, rest := v.QuoRem(v, c, new(big.Int)); rest.Sign() != 0 {
			return nil, api.ErrExact
		}
	}
	return l, api.OK
}

// P4.3: held against numbers of another make.
func TestOverMany(t *testing.T) {
	for _, a := range rows(40) {
		for _, c := range append(numbers(6), row.Content(a), row.Content(a).Neg()) {
			want, e := quotients(a, value(c))
			if got, err := row.Over(a, c); !says(got, want) || err != e {
				t.Errorf("Over(%s, %s): %s, %v", show(a), c.Text(), show(got), err)
			}
		}
	}
}

// P4.3: one number in MaxCoeffs that is not divided, at the beginning, in the middle, at the end.
func TestOverLong(t *testing.T) {
	for _, at := range []int{0, 1, api.MaxCoeffs / 2, api.MaxCoeffs - 1} {
		a := row.Of(make([]int64, api.MaxCoeffs)...)
		for i := range a {
			a[i] = of(int64(3 * i))
		}
		if got, e := row.Over(a, of(3)); len(got) != len(a) || value(got[at]).Int64() != int64(at) || e != api.OK {
			t.Errorf("Over: %d numbers, %v", len(got), e)
		}
		a[at] = a[at].Add(of(1))
		if got, e := row.Over(a, of(3)); len(got) != 0 || e != api.ErrExact {
			t.Errorf("Over, one more at %d: %d numbers, %v", at, len(got), e)
		}
	}
}

// content is what divides all, told by numbers of another make.
func content(a []integer.Int) *big.Int {
	g := new(big.Int)
	for _, v := range values(a) {
		g.GCD(nil, nil, g, v.Abs(v))
	}
	return g
}

// P4.3
func TestContent(t *testing.T) {
	for _, x := range []struct {
		a    []int64
		want string
	}{
		{[]int64{4, -6, 0}, "2"}, {[]int64{0, 0}, "0"}, {nil, "0"}, {[]int64{5, 7}, "1"}, {[]int64{-5}, "5"}, {[]int64{0, -5, 0}, "5"}, {[]int64{6, 10, 15}, "1"}, {[]int64{6, 10, 14}, "2"}, {[]int64{12, 18, 24, 30}, "6"}, {[]int64{12, 18, 24, 31}, "1"}, {[]int64{1, 8, 8}, "1"}, {[]int64{-1}, "1"},
		{[]int64{math.MinInt64}, "9223372036854775808"}, {[]int64{math.MinInt64, 0, math.MinInt64}, "9223372036854775808"}, {[]int64{1 << 32, 3 << 32}, "4294967296"}, {[]int64{top, top}, "4294967295"},
	} {
		if got := row.Content(row.Of(x.a...)).Text(); got != x.want {
			t.Errorf("Content(%v): %s", x.a, got)
		}
	}
	for _, a := range rows(200) {
		if got := row.Content(a); value(got).Cmp(content(a)) != 0 {
			t.Errorf("Content(%s): %s", show(a), got.Text())
		}
	}
}

// P4.3
func TestPrimitive(t *testing.T) {
	for _, x := range []struct {
		a, want []int64
		g       int64
	}{
		{[]int64{0, -4, 6}, []int64{0, 2, -3}, -2}, {[]int64{0, 0}, []int64{0, 0}, 0}, {nil, nil, 0}, {[]int64{0}, []int64{0}, 0}, {[]int64{4, -6}, []int64{2, -3}, 2}, {[]int64{-4, 6}, []int64{2, -3}, -2}, {[]int64{-4, -6}, []int64{2, 3}, -2}, {[]int64{5}, []int64{1}, 5}, {[]int64{-5}, []int64{1}, -5}, {[]int64{0, 0, -5, 0}, []int64{0, 0, 1, 0}, -5},
		{[]int64{1, -2}, []int64{1, -2}, 1}, {[]int64{-1, 2}, []int64{1, -2}, -1}, {[]int64{-6, 10, -15}, []int64{6, -10, 15}, -1}, {[]int64{math.MinInt64, 0}, []int64{1, 0}, math.MinInt64}, {[]int64{0, 1 << 33, 3 << 32}, []int64{0, 2, 3}, 1 << 32},
	} {
		if got, g := row.Primitive(row.Of(x.a...)); !is(got, x.want...) || value(g).Cmp(big.NewInt(x.g)) != 0 {
			t.Errorf("Primitive(%v): %s, %s", x.a, show(got), g.Text())
		}
	}
}

// P4.3: held against numbers of another make.
func TestPrimitiveMany(t *testing.T) {
	for _, a := range rows(200) {
		g, l := content(a), values(a)
		for _, v := range l {
			if v.Sign() != 0 {
				g.Mul(g, big.NewInt(int64(v.Sign())))
				break
			}
		}
		for _, v := range l {
			if g.Sign() != 0 {
				v.Quo(v, g)
			}
		}
		if got, by := row.Primitive(a); !says(got, l) || value(by).Cmp(g) != 0 {
			t.Errorf("Primitive(%s): %s, %s", show(a), show(got), by.Text())
		}
	}
}

// P4.3: noughts of any length, longer ones than those that Zero makes among them.
func TestPrimitiveOfNoughts(t *testing.T) {
	for _, n := range []int{0, 1, 2, api.MaxCoeffs, api.MaxCoeffs + 1, 2 * api.MaxCoeffs} {
		a := make([]integer.Int, n)
		if got, g := row.Primitive(a); !is(got, make([]int64, n)...) || g.Sign() != 0 {
			t.Errorf("Primitive of %d noughts: %d numbers, %s", n, len(got), g.Text())
		}
		if g := row.Content(a); g.Sign() != 0 {
			t.Errorf("Content of %d noughts: %s", n, g.Text())
		}
		if n == 0 {
			continue
		}
		a[n-1] = of(-6)
		if got, g := row.Primitive(a); len(got) != n || !is(got[n-1:], 1) || !row.IsZero(got[:n-1]) || g.Text() != "-6" {
			t.Errorf("Primitive of noughts and -6: %d numbers, %s", len(got), g.Text())
		}
	}
}
