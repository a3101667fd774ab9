package limb_test

import (
	"math"
	"math/big"
	"testing"

	"swage/api"
	"swage/limb"
)

// P1.1
func TestNorm(t *testing.T) {
	for _, x := range []struct{ a, want []uint32 }{
		{nil, nil}, {l(), nil}, {l(0), nil}, {l(0, 0), nil}, {l(1, 0, 0), l(1)}, {l(0, 7, 0, 0), l(0, 7)}, {l(0, 0, top), l(0, 0, top)},
	} {
		if got := limb.Norm(x.a); !same(got, x.want) {
			t.Errorf("Norm(%v): %v", x.a, got)
		}
	}
}

// P1.1
func TestCmp(t *testing.T) {
	for _, x := range []struct {
		a, b []uint32
		want int
	}{
		{l(1, 0), l(1), 0}, {l(0, 1), l(top), 1}, {nil, l(0, 0), 0}, {nil, l(1), -1}, {l(5, 1), l(6, 1), -1}, {l(top, 1), l(0, 2), -1}, {l(0, 0, 0), l(0, 1), -1},
	} {
		if got := limb.Cmp(x.a, x.b); got != x.want {
			t.Errorf("Cmp(%v, %v): %d", x.a, x.b, got)
		}
	}
	for _, a := range samples(60) {
		for _, b := range samples(60) {
			if got := limb.Cmp(a, b); got != value(a).Cmp(value(b)) {
				t.Errorf("Cmp(%v, %v): %d", a, b, got)
			}
		}
	}
}

// P1.2
func TestAddSub(t *testing.T) {
	if got := limb.Add(l(top), l(1)); !same(got, l(0, 1)) {
		t.Errorf("Add: %v", got)
	}
	if got, e := limb.Sub(l(0, 1), l(1)); !same(got, l(top)) || e != api.OK {
		t.Errorf("Sub: %v, %v", got, e)
	}
	if got, e := limb.Sub(l(0, 0), nil); len(got) != 0 || e != api.OK {
		t.Errorf("Sub: %v, %v", got, e)
	}
	if got, e := limb.Sub(l(1), l(2)); len(got) != 0 || e != api.ErrRange {
		t.Errorf("Sub: %v, %v", got, e)
	}
	for _, a := range samples(60) {
		for _, b := range samples(60) {
			if got := limb.Add(a, b); !says(got, new(big.Int).Add(value(a), value(b))) {
				t.Errorf("Add(%v, %v): %v", a, b, got)
			}
			got, e := limb.Sub(a, b)
			if value(a).Cmp(value(b)) < 0 {
				if len(got) != 0 || e != api.ErrRange {
					t.Errorf("Sub(%v, %v): %v, %v", a, b, got, e)
				}
			} else if !says(got, new(big.Int).Sub(value(a), value(b))) || e != api.OK {
				t.Errorf("Sub(%v, %v): %v, %v", a, b, got, e)
			}
		}
	}
}

// P1.3
func TestMul(t *testing.T) {
	for _, x := range []struct{ a, b, want []uint32 }{
		{l(top), l(top), l(1, top-1)}, {l(5), l(0, 0), nil}, {nil, l(7), nil}, {l(top, top), l(top, top, 0), l(1, 0, top-1, top)},
	} {
		if got := limb.Mul(x.a, x.b); !same(got, x.want) {
			t.Errorf("Mul(%v, %v): %v", x.a, x.b, got)
		}
	}
	for _, a := range samples(60) {
		for _, b := range samples(60) {
			if got := limb.Mul(a, b); !says(got, new(big.Int).Mul(value(a), value(b))) {
				t.Errorf("Mul(%v, %v): %v", a, b, got)
			}
		}
	}
}

// P1.3
func TestMulSmall(t *testing.T) {
	if got := limb.MulSmall(l(0, 1), 3); !same(got, l(0, 3)) {
		t.Errorf("MulSmall: %v", got)
	}
	for _, a := range samples(60) {
		for _, c := range []uint32{0, 1, 2, 10, 1 << 31, top - 1, top} {
			if got := limb.MulSmall(a, c); !says(got, new(big.Int).Mul(value(a), big.NewInt(int64(c)))) {
				t.Errorf("MulSmall(%v, %d): %v", a, c, got)
			}
		}
	}
}

// P1.4
func TestDivSmall(t *testing.T) {
	if q, r, e := limb.DivSmall(l(0, 1), 10); !same(q, l(429496729)) || r != 6 || e != api.OK {
		t.Errorf("DivSmall: %v, %d, %v", q, r, e)
	}
	for _, a := range samples(60) {
		if q, r, e := limb.DivSmall(a, 0); len(q) != 0 || r != 0 || e != api.ErrArg {
			t.Errorf("DivSmall(%v, 0): %v, %d, %v", a, q, r, e)
		}
		for _, c := range []uint32{1, 2, 3, 10, 1<<31 - 1, 1 << 31, top - 1, top} {
			want, rest := new(big.Int).QuoRem(value(a), big.NewInt(int64(c)), new(big.Int))
			if q, r, e := limb.DivSmall(a, c); !says(q, want) || int64(r) != rest.Int64() || e != api.OK {
				t.Errorf("DivSmall(%v, %d): %v, %d, %v", a, c, q, r, e)
			}
		}
	}
}

// P1.4: the last ones are quotients of which the first guess is one or two too great, by the third limb or by all of them.
func TestDivMod(t *testing.T) {
	for _, x := range []struct{ a, b, q, r []uint32 }{
		{l(1, top-1), l(top), l(top), nil}, {l(5), l(7), nil, l(5)}, {nil, l(3, 0), nil, nil}, {l(5, 0, 0), l(0, 1), nil, l(5)}, {l(0, 0, 0, 1), l(0, 1), l(0, 0, 1), nil}, {l(7, 7), l(7, 7, 0), l(1), nil},
		{l(0, 0, 1), l(1, 1), l(top), l(1)},
		{l(0, 0, 1<<31), l(1, 1<<31), l(top), l(1, 1<<31-1)},
		{l(0, top-1, 1<<31), l(top, 1<<31), l(top), l(top, 1<<31-1)},
		{l(3, 0, 1<<31), l(1, 0, 1<<29), l(3), l(0, 0, 1<<29)},
		{l(3, 0, 1<<15), l(1, 0, 1<<13), l(3), l(0, 0, 1<<13)},
		{l(0, 0, 1<<15, 1<<15-1), l(1, 0, 1<<15), l(0xfffe0000), l(0x00020000, top, 1<<15-1)},
		{l(0, 0xfffe, 0, 1<<15), l(0xffff, 0, 1<<15), l(top), l(0xffff, top, 1<<15-1)},
	} {
		q, r, e := limb.DivMod(x.a, x.b)
		if !same(q, x.q) || !same(r, x.r) || e != api.OK {
			t.Errorf("DivMod(%v, %v): %v, %v, %v", x.a, x.b, q, r, e)
		}
	}
	for _, a := range samples(150) {
		for _, nought := range [][]uint32{nil, l(), l(0), l(0, 0)} {
			if q, r, e := limb.DivMod(a, nought); len(q) != 0 || len(r) != 0 || e != api.ErrArg {
				t.Errorf("DivMod(%v, %v): %v, %v, %v", a, nought, q, r, e)
			}
		}
		for _, b := range samples(150) {
			if value(b).Sign() == 0 {
				continue
			}
			want, rest := new(big.Int).QuoRem(value(a), value(b), new(big.Int))
			if q, r, e := limb.DivMod(a, b); !says(q, want) || !says(r, rest) || e != api.OK {
				t.Errorf("DivMod(%v, %v): %v, %v, %v", a, b, q, r, e)
			}
		}
	}
}

// P1.5
func TestGcd(t *testing.T) {
	for _, x := range []struct{ a, b, want []uint32 }{
		{l(12), l(18), l(6)}, {nil, l(5, 0), l(5)}, {l(5, 0), nil, l(5)}, {nil, nil, nil}, {l(0, 0), l(0), nil}, {l(0, 6), l(0, 0, 4), l(0, 2)}, {l(top), l(0, 1), l(1)}, {l(7, 7), l(7, 7, 0), l(7, 7)},
	} {
		if got := limb.Gcd(x.a, x.b); !same(got, x.want) {
			t.Errorf("Gcd(%v, %v): %v", x.a, x.b, got)
		}
	}
	for _, a := range samples(60) {
		for _, b := range samples(60) {
			if got := limb.Gcd(a, b); !says(got, new(big.Int).GCD(nil, nil, value(a), value(b))) {
				t.Errorf("Gcd(%v, %v): %v", a, b, got)
			}
		}
	}
}

// P1.6
func TestShl(t *testing.T) {
	if got, e := limb.Shl(l(1), 33); !same(got, l(0, 2)) || e != api.OK {
		t.Errorf("Shl: %v, %v", got, e)
	}
	for _, a := range samples(60) {
		for _, n := range []int{0, 1, 31, 32, 33, 64, 1000, api.MaxBits - 1, api.MaxBits} {
			if got, e := limb.Shl(a, n); !says(got, new(big.Int).Lsh(value(a), uint(n))) || e != api.OK {
				t.Errorf("Shl(%v, %d): %d limbs, %v", a, n, len(got), e)
			}
		}
		for _, n := range []int{-1, -32, math.MinInt} {
			if got, e := limb.Shl(a, n); len(got) != 0 || e != api.ErrArg {
				t.Errorf("Shl(%v, %d): %v, %v", a, n, got, e)
			}
		}
		for _, n := range []int{api.MaxBits + 1, 1 << 40, math.MaxInt} {
			if got, e := limb.Shl(a, n); len(got) != 0 || e != api.ErrLong {
				t.Errorf("Shl(%v, %d): %v, %v", a, n, got, e)
			}
		}
	}
}

// P1.6
func TestShr(t *testing.T) {
	if got, e := limb.Shr(l(0, 2), 33); !same(got, l(1)) || e != api.OK {
		t.Errorf("Shr: %v, %v", got, e)
	}
	for _, a := range samples(60) {
		for _, n := range []int{0, 1, 31, 32, 33, 63, 64, 65, 255, 256, api.MaxBits, api.MaxBits + 1} {
			if got, e := limb.Shr(a, n); !says(got, new(big.Int).Rsh(value(a), uint(n))) || e != api.OK {
				t.Errorf("Shr(%v, %d): %v, %v", a, n, got, e)
			}
		}
		for _, n := range []int{1 << 40, 1 << 62, math.MaxInt} {
			if got, e := limb.Shr(a, n); len(got) != 0 || e != api.OK {
				t.Errorf("Shr(%v, %d): %v, %v", a, n, got, e)
			}
		}
		for _, n := range []int{-1, -32, math.MinInt} {
			if got, e := limb.Shr(a, n); len(got) != 0 || e != api.ErrArg {
				t.Errorf("Shr(%v, %d): %v, %v", a, n, got, e)
			}
		}
	}
}

// P1.7
func TestBits(t *testing.T) {
	if limb.Bits(l(0, 1)) != 33 || limb.Bits(nil) != 0 || limb.Bits(l(0, 0)) != 0 || limb.Bits(l(255, 0)) != 8 || limb.Bits(l(256)) != 9 {
		t.Error("Bits")
	}
	if !limb.Bit(l(0, 1), 32) || limb.Bit(l(0, 1), 0) || limb.Bit(l(1), -1) || limb.Bit(l(top), -32) || limb.Bit(nil, 0) {
		t.Error("Bit")
	}
	if limb.Twos(l(0, 4)) != 34 || limb.Twos(nil) != 0 || limb.Twos(l(0, 0)) != 0 || limb.Twos(l(3)) != 0 {
		t.Error("Twos")
	}
	for _, a := range samples(60) {
		v := value(a)
		if got := limb.Bits(a); got != v.BitLen() {
			t.Errorf("Bits(%v): %d", a, got)
		}
		if got := limb.Twos(a); got != int(v.TrailingZeroBits()) {
			t.Errorf("Twos(%v): %d", a, got)
		}
		for k := range 300 {
			if limb.Bit(a, k) != (v.Bit(k) == 1) {
				t.Errorf("Bit(%v, %d)", a, k)
			}
		}
		for _, k := range []int{-1, math.MinInt, 1 << 62, math.MaxInt} {
			if limb.Bit(a, k) {
				t.Errorf("Bit(%v, %d)", a, k)
			}
		}
	}
}
