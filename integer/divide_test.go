package integer_test

import (
	"math"
	"math/big"
	"testing"

	"swage/api"
	"swage/integer"
)

// P2.3
func TestOver(t *testing.T) {
	for _, x := range []struct {
		a    int64
		c    int
		want int64
		e    api.Errno
	}{
		{12, -4, -3, api.OK}, {12, 5, 0, api.ErrExact}, {0, 7, 0, api.OK}, {0, 0, 0, api.ErrArg}, {5, 0, 0, api.ErrArg}, {-12, -4, 3, api.OK}, {-12, 4, -3, api.OK}, {-7, 2, 0, api.ErrExact}, {3, 12, 0, api.ErrExact},
		{math.MinInt64, math.MinInt64, 1, api.OK}, {math.MaxInt64, math.MinInt64, 0, api.ErrExact}, {1 << 62, math.MinInt64, 0, api.ErrExact}, {0, math.MinInt64, 0, api.OK}, {math.MinInt64, 2, -1 << 62, api.OK}, {math.MaxInt64, -math.MaxInt64, -1, api.OK},
	} {
		if got, e := of(x.a).Over(x.c); !same(got, of(x.want)) || e != x.e {
			t.Errorf("%d Over %d: %v, %v", x.a, x.c, value(got), e)
		}
	}
	for _, x := range samples(60) {
		for _, c := range ends() {
			got, e := x.Over(int(c))
			switch {
			case c == 0:
				if !zero(got) || e != api.ErrArg {
					t.Errorf("%v Over 0: %v, %v", value(x), value(got), e)
				}
			case new(big.Int).Rem(value(x), big.NewInt(c)).Sign() != 0:
				if !zero(got) || e != api.ErrExact {
					t.Errorf("%v Over %d: %v, %v", value(x), c, value(got), e)
				}
			case !says(got, new(big.Int).Quo(value(x), big.NewInt(c))) || e != api.OK:
				t.Errorf("%v Over %d: %v, %v", value(x), c, value(got), e)
			}
		}
	}
	if got, e := integer.Make(false, []uint32{0, 1 << 31}).Over(-1); !same(got, of(math.MinInt64)) || e != api.OK {
		t.Errorf("2^63 Over -1: %v, %v", value(got), e)
	}
}

// P2.3
func TestDivMod(t *testing.T) {
	for _, x := range []struct{ a, b, q, r int64 }{
		{-7, 2, -4, 1}, {-7, -2, 4, 1}, {7, -2, -3, 1}, {7, 2, 3, 1}, {6, 3, 2, 0}, {-6, 3, -2, 0}, {-6, -3, 2, 0}, {0, -5, 0, 0}, {-1, 5, -1, 4}, {-1, -5, 1, 4}, {1, -5, 0, 1},
		{math.MinInt64, math.MinInt64, 1, 0}, {math.MinInt64, math.MaxInt64, -2, math.MaxInt64 - 1}, {math.MaxInt64, math.MinInt64, 0, math.MaxInt64}, {math.MinInt64, 1, math.MinInt64, 0},
	} {
		q, r, e := of(x.a).DivMod(of(x.b))
		if !same(q, of(x.q)) || !same(r, of(x.r)) || e != api.OK {
			t.Errorf("%d DivMod %d: %v, %v, %v", x.a, x.b, value(q), value(r), e)
		}
	}
	for _, x := range samples(100) {
		for _, y := range samples(100) {
			q, r, e := x.DivMod(y)
			if y.Sign() == 0 {
				if !zero(q) || !zero(r) || e != api.ErrArg {
					t.Errorf("%v DivMod 0: %v, %v, %v", value(x), value(q), value(r), e)
				}
				continue
			}
			quotient, rest := new(big.Int).DivMod(value(x), value(y), new(big.Int)) // big's DivMod leaves no remainder below 0
			if !says(q, quotient) || !says(r, rest) || e != api.OK {
				t.Errorf("%v DivMod %v: %v, %v, %v", value(x), value(y), value(q), value(r), e)
			}
		}
	}
}

// P2.4
func TestGcd(t *testing.T) {
	for _, x := range []struct{ a, b, want int64 }{
		{12, -18, 6}, {-12, -18, 6}, {0, 0, 0}, {0, -5, 5}, {-5, 0, 5}, {1, -1, 1}, {math.MinInt64, 1 << 62, 1 << 62}, {7, 7, 7},
	} {
		if got := of(x.a).Gcd(of(x.b)); !same(got, of(x.want)) {
			t.Errorf("%d Gcd %d: %v", x.a, x.b, value(got))
		}
	}
	if got := of(math.MinInt64).Gcd(of(0)); !says(got, new(big.Int).Lsh(big.NewInt(1), 63)) {
		t.Errorf("-2^63 Gcd 0: %v", value(got))
	}
	for _, x := range samples(60) {
		for _, y := range samples(60) {
			want := new(big.Int).GCD(nil, nil, new(big.Int).Abs(value(x)), new(big.Int).Abs(value(y)))
			if got := x.Gcd(y); !says(got, want) {
				t.Errorf("%v Gcd %v: %v", value(x), value(y), value(got))
			}
		}
	}
}

// P2.4
func TestBezout(t *testing.T) {
	for _, x := range [][5]int64{
		{12, -18, 6, 2, 1}, {3, 0, 3, 1, 0}, {-3, 0, 3, -1, 0}, {0, 0, 0, 0, 0}, {0, -5, 5, 0, -1}, {0, 5, 5, 0, 1}, {5, 1, 1, 0, 1}, {5, -1, 1, 0, -1}, {-5, 1, 1, 0, 1}, {6, 6, 6, 0, 1}, {-6, 6, 6, 0, 1}, {6, -6, 6, 0, -1}, {4, 6, 2, 2, -1}, {-4, 6, 2, 1, 1}, {-4, -6, 2, 1, -1}, {1, 7, 1, 1, 0}, {-1, 7, 1, 6, 1}, {1, math.MinInt64, 1, 1, 0},
	} {
		g, u, v := of(x[0]).Bezout(of(x[1]))
		if !same(g, of(x[2])) || !same(u, of(x[3])) || !same(v, of(x[4])) {
			t.Errorf("%d Bezout %d: %v, %v, %v", x[0], x[1], value(g), value(u), value(v))
		}
	}
	for _, x := range samples(60) {
		for _, y := range samples(60) {
			checkBezout(t, x, y)
		}
	}
}

// checkBezout holds all that is said of g, u and v against x and y, by numbers of another make.
func checkBezout(t *testing.T, x, y integer.Int) {
	t.Helper()
	a, b := value(x), value(y)
	got, u, v := x.Bezout(y)
	g := new(big.Int).GCD(nil, nil, new(big.Int).Abs(a), new(big.Int).Abs(b))
	sum := new(big.Int).Add(new(big.Int).Mul(value(u), a), new(big.Int).Mul(value(v), b))
	if !says(got, g) || sum.Cmp(g) != 0 || !says(u, value(u)) || !says(v, value(v)) {
		t.Errorf("%v Bezout %v: %v, %v, %v", a, b, value(got), value(u), value(v))
	}
	if b.Sign() == 0 {
		if !same(u, of(int64(a.Sign()))) || !zero(v) {
			t.Errorf("%v Bezout 0: %v, %v", a, value(u), value(v))
		}
		return
	}
	if u.Sign() < 0 || value(u).Cmp(new(big.Int).Quo(new(big.Int).Abs(b), g)) >= 0 {
		t.Errorf("%v Bezout %v: u is %v", a, b, value(u))
	}
}

// P2.4, R1: Euclid's steps are most for neighbours of Fibonacci's row.
func TestBezoutLong(t *testing.T) {
	x, y := of(0), of(1)
	for range 2000 {
		x, y = y, x.Add(y)
	}
	checkBezout(t, x, y)
	checkBezout(t, y.Neg(), x)
	m := maker(97)
	checkBezout(t, m.number(300), m.number(299))
	checkBezout(t, m.number(20), m.number(200))
}
