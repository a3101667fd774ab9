package ratio_test

import (
	"math"
	"math/big"
	"testing"

	"swage/api"
	"swage/integer"
	"swage/ratio"
)

// P3.1
func TestMake(t *testing.T) {
	for _, x := range []struct{ n, d, num, den int64 }{
		{6, -4, -3, 2}, {-6, -4, 3, 2}, {-6, 4, -3, 2}, {6, 4, 3, 2}, {0, -5, 0, 1}, {0, 1, 0, 1}, {0, math.MinInt64, 0, 1}, {7, 7, 1, 1}, {7, -7, -1, 1}, {12, 4, 3, 1}, {12, -1, -12, 1}, {4, 12, 1, 3}, {5, 3, 5, 3}, {1, -1, -1, 1},
		{math.MinInt64, math.MinInt64, 1, 1}, {math.MinInt64, -2, 1 << 62, 1}, {math.MinInt64, 6, -1 << 62, 3}, {3 << 32, 1 << 33, 3, 2}, {top, -1 << 32, -top, 1 << 32},
	} {
		got, e := ratio.Make(of(x.n), of(x.d))
		if e != api.OK || got.Num().Cmp(of(x.num)) != 0 || got.Den().Cmp(of(x.den)) != 0 {
			t.Errorf("Make(%d, %d): %s, %s, %v", x.n, x.d, got.Num().Text(), got.Den().Text(), e)
		}
	}
	for _, n := range wholes(30) {
		for _, d := range wholes(30) {
			got, e := ratio.Make(n, d)
			if d.Sign() == 0 {
				if !zero(got) || e != api.ErrArg {
					t.Errorf("Make(%s, 0): %s, %v", n.Text(), got.Text(), e)
				}
				continue
			}
			if want := new(big.Rat).SetFrac(number(n), number(d)); !says(got, want) || e != api.OK {
				t.Errorf("Make(%s, %s): %s, %v", n.Text(), d.Text(), got.Text(), e)
			}
		}
	}
}

// P3.1
func TestMakeLong(t *testing.T) {
	m := maker(97)
	for range 300 {
		n, d := m.pair(8)
		got, e := ratio.Make(n, d)
		if d.Sign() == 0 {
			if !zero(got) || e != api.ErrArg {
				t.Errorf("Make(%s, 0): %s, %v", n.Text(), got.Text(), e)
			}
		} else if !says(got, new(big.Rat).SetFrac(number(n), number(d))) || e != api.OK {
			t.Errorf("Make(%s, %s): %s, %v", n.Text(), d.Text(), got.Text(), e)
		}
	}
}

// P3.1
func TestWhole(t *testing.T) {
	for _, n := range wholes(30) {
		x := ratio.Whole(n)
		if x.Num().Cmp(n) != 0 || x.Den().Cmp(of(1)) != 0 || !x.IsWhole() || x.Floor().Cmp(n) != 0 || x.Sign() != n.Sign() || x.Text() != n.Text() {
			t.Errorf("Whole(%s): %s", n.Text(), x.Text())
		}
		if made, e := ratio.Make(n, of(1)); !same(made, x) || made.Cmp(x) != 0 || e != api.OK {
			t.Errorf("Make(%s, 1): %s, %v", n.Text(), made.Text(), e)
		}
	}
}

// P3.1 to P3.5, of the zero value
func TestZeroValue(t *testing.T) {
	var x ratio.Rat
	if x.Num().Sign() != 0 || x.Den().Text() != "1" || x.Sign() != 0 || !x.IsWhole() || x.Floor().Sign() != 0 || x.Text() != "0" {
		t.Errorf("told: %s, %s, %s", x.Num().Text(), x.Den().Text(), x.Text())
	}
	if !zero(x.Neg()) || !zero(x.Add(x)) || !zero(x.Sub(x)) || !zero(x.Mul(x)) || x.Cmp(ratio.Rat{}) != 0 || x.Cmp(rat(0, -5)) != 0 {
		t.Error("by itself")
	}
	half := rat(1, 2)
	if !same(x.Add(half), half) || !same(half.Add(x), half) || !same(x.Sub(half), rat(-1, 2)) || !same(half.Sub(x), half) || !zero(x.Mul(half)) || !zero(half.Mul(x)) || x.Cmp(half) != -1 || half.Cmp(x) != 1 {
		t.Error("with another")
	}
	if got, e := x.Over(half); !zero(got) || e != api.OK {
		t.Errorf("Over a half: %s, %v", got.Text(), e)
	}
	if got, e := half.Over(x); !zero(got) || e != api.ErrArg {
		t.Errorf("a half Over it: %s, %v", got.Text(), e)
	}
	if got, d := ratio.Common(x, half, x); len(got) != 3 || got[0].Sign() != 0 || got[1].Text() != "1" || got[2].Sign() != 0 || d.Text() != "2" {
		t.Errorf("Common: %v, %s", got, d.Text())
	}
	if !same(ratio.Sum(x, half, x), half) {
		t.Error("Sum")
	}
}

// P3.2
func TestSign(t *testing.T) {
	for _, x := range samples(60) {
		if got := x.Sign(); got != value(x).Sign() {
			t.Errorf("Sign of %s: %d", x.Text(), got)
		}
		if got := x.IsWhole(); got != value(x).IsInt() {
			t.Errorf("IsWhole of %s: %v", x.Text(), got)
		}
	}
}

// P3.2
func TestCmp(t *testing.T) {
	for _, x := range []struct {
		x, y ratio.Rat
		want int
	}{
		{rat(1, 2), rat(1, 3), 1}, {rat(-1, 2), rat(-1, 3), -1}, {rat(2, 4), rat(-3, -6), 0}, {rat(1, 2), rat(-2, 1), 1}, {rat(-1, 2), rat(0, 7), -1}, {rat(5, 1), rat(9, 2), 1}, {rat(5, 1), rat(11, 2), -1},
		{rat(math.MaxInt64, math.MaxInt64-1), rat(math.MaxInt64-1, math.MaxInt64-2), -1},
	} {
		if got := x.x.Cmp(x.y); got != x.want {
			t.Errorf("%s Cmp %s: %d", x.x.Text(), x.y.Text(), got)
		}
	}
	for _, x := range samples(60) {
		for _, y := range samples(60) {
			if got := x.Cmp(y); got != value(x).Cmp(value(y)) {
				t.Errorf("%s Cmp %s: %d", x.Text(), y.Text(), got)
			}
		}
	}
}

// P3.2
func TestFloor(t *testing.T) {
	for _, x := range []struct{ n, d, want int64 }{
		{6, -4, -2}, {-7, 2, -4}, {7, 2, 3}, {1, 3, 0}, {-1, 3, -1}, {1, -3, -1}, {-8, 2, -4}, {8, 2, 4}, {0, 3, 0}, {99, 100, 0}, {-99, 100, -1}, {-101, 100, -2}, {math.MinInt64, 3, -3074457345618258603}, {math.MinInt64, 1, math.MinInt64},
	} {
		if got := rat(x.n, x.d).Floor(); got.Cmp(of(x.want)) != 0 {
			t.Errorf("Floor of %d/%d: %s", x.n, x.d, got.Text())
		}
	}
	for _, x := range samples(100) {
		want := new(big.Int).Div(value(x).Num(), value(x).Denom()) // big's Div by a number above 0 rounds down
		if got := x.Floor(); number(got).Cmp(want) != 0 {
			t.Errorf("Floor of %s: %s", x.Text(), got.Text())
		}
	}
}

// P3.8: lowest terms, and what is made of them, and of both times one number.
func TestLowestTerms(t *testing.T) {
	for _, x := range samples(60) {
		if x.Num().Gcd(x.Den()).Cmp(of(1)) != 0 || x.Den().Sign() != 1 {
			t.Errorf("%s: %s, %s", x.Text(), x.Num().Text(), x.Den().Text())
		}
		for _, c := range append(wholes(10), of(1)) {
			if c.Sign() == 0 {
				continue
			}
			if got, e := ratio.Make(x.Num().Mul(c), x.Den().Mul(c)); !same(got, x) || got.Cmp(x) != 0 || e != api.OK {
				t.Errorf("%s, both times %s: %s, %v", x.Text(), c.Text(), got.Text(), e)
			}
		}
	}
	if got, e := ratio.Make(integer.Int{}, integer.Int{}); !zero(got) || e != api.ErrArg {
		t.Errorf("Make(0, 0): %s, %v", got.Text(), e)
	}
}
