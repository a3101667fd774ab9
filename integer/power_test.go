package integer_test

import (
	"math"
	"math/big"
	"testing"

	"swage/api"
	"swage/integer"
)

// P2.5
func TestShl(t *testing.T) {
	for _, x := range samples(40) {
		for _, n := range []int{0, 1, 31, 32, 33, 64, 1000, api.MaxBits - 1, api.MaxBits} {
			if got, e := x.Shl(n); !says(got, new(big.Int).Lsh(value(x), uint(n))) || e != api.OK {
				t.Errorf("%v Shl %d: %d bits, %v", value(x), n, got.Bits(), e)
			}
		}
		for _, n := range []int{-1, -32, math.MinInt} {
			if got, e := x.Shl(n); !zero(got) || e != api.ErrArg {
				t.Errorf("%v Shl %d: %v, %v", value(x), n, value(got), e)
			}
		}
		for _, n := range []int{api.MaxBits + 1, 1 << 40, math.MaxInt} {
			if got, e := x.Shl(n); !zero(got) || e != api.ErrLong {
				t.Errorf("%v Shl %d: %v, %v", value(x), n, value(got), e)
			}
		}
	}
}

// P2.5
func TestShr(t *testing.T) {
	for _, x := range []struct {
		a    int64
		n    int
		want int64
		e    api.Errno
	}{
		{-12, 2, -3, api.OK}, {-12, 3, 0, api.ErrExact}, {-12, 0, -12, api.OK}, {5, 0, 5, api.OK}, {5, 1, 0, api.ErrExact}, {-1, 1, 0, api.ErrExact}, {math.MinInt64, 63, -1, api.OK}, {math.MinInt64, 64, 0, api.ErrExact}, {5, math.MaxInt, 0, api.ErrExact}, {5, -1, 0, api.ErrArg}, {0, -1, 0, api.ErrArg}, {4, math.MinInt, 0, api.ErrArg}, {0, 0, 0, api.OK}, {0, 1, 0, api.OK}, {0, api.MaxBits + 1, 0, api.OK}, {0, math.MaxInt, 0, api.OK},
	} {
		if got, e := of(x.a).Shr(x.n); !same(got, of(x.want)) || e != x.e {
			t.Errorf("%d Shr %d: %v, %v", x.a, x.n, value(got), e)
		}
	}
	for _, x := range samples(60) {
		for n := range 200 {
			got, e := x.Shr(n)
			unit := new(big.Int).Lsh(big.NewInt(1), uint(n))
			quotient, rest := new(big.Int).QuoRem(value(x), unit, new(big.Int))
			if rest.Sign() != 0 {
				if !zero(got) || e != api.ErrExact {
					t.Errorf("%v Shr %d: %v, %v", value(x), n, value(got), e)
				}
			} else if !says(got, quotient) || e != api.OK {
				t.Errorf("%v Shr %d: %v, %v", value(x), n, value(got), e)
			}
		}
	}
}

// P2.5: a number is shifted down by more bits than MaxBits, where these are noughts.
func TestShrLong(t *testing.T) {
	x, _ := of(-3).Shl(api.MaxBits)
	x, _ = x.Shl(api.MaxBits)
	if x.Twos() != 2*api.MaxBits || x.Bits() != 2*api.MaxBits+2 {
		t.Errorf("Twos %d, Bits %d", x.Twos(), x.Bits())
	}
	if got, e := x.Shr(2 * api.MaxBits); !same(got, of(-3)) || e != api.OK {
		t.Errorf("Shr: %v, %v", value(got), e)
	}
	if got, e := x.Shr(2*api.MaxBits + 1); !zero(got) || e != api.ErrExact {
		t.Errorf("Shr: %v, %v", value(got), e)
	}
}

// P2.5
func TestTwosBits(t *testing.T) {
	for _, x := range []struct {
		a          int64
		twos, bits int
	}{
		{0, -1, 0}, {1, 0, 1}, {-1, 0, 1}, {-12, 2, 4}, {12, 2, 4}, {math.MinInt64, 63, 64}, {math.MaxInt64, 0, 63}, {1 << 32, 32, 33}, {-top, 0, 32},
	} {
		if got := of(x.a); got.Twos() != x.twos || got.Bits() != x.bits {
			t.Errorf("%d: Twos %d, Bits %d", x.a, got.Twos(), got.Bits())
		}
	}
	for _, x := range samples(60) {
		twos := int(value(x).TrailingZeroBits())
		if value(x).Sign() == 0 {
			twos = -1
		}
		if x.Twos() != twos || x.Bits() != value(x).BitLen() {
			t.Errorf("%v: Twos %d, Bits %d", value(x), x.Twos(), x.Bits())
		}
	}
}

// P2.6
func TestPow(t *testing.T) {
	for _, x := range []struct {
		a    int64
		n    int
		want int64
		e    api.Errno
	}{
		{-2, 3, -8, api.OK}, {-2, 4, 16, api.OK}, {0, 0, 1, api.OK}, {0, 1, 0, api.OK}, {0, api.MaxBits + 1, 0, api.OK}, {0, math.MaxInt, 0, api.OK}, {7, 0, 1, api.OK}, {-7, 1, -7, api.OK}, {2, 40000, 0, api.ErrLong},
		{1, api.MaxBits, 1, api.OK}, {1, api.MaxBits + 1, 0, api.ErrLong}, {-1, api.MaxBits - 1, -1, api.OK}, {-1, api.MaxBits, 1, api.OK}, {-1, api.MaxBits + 1, 0, api.ErrLong}, {1, math.MaxInt, 0, api.ErrLong},
		{2, api.MaxBits/2 + 1, 0, api.ErrLong}, {7, api.MaxBits/3 + 1, 0, api.ErrLong}, {math.MaxInt64, math.MaxInt, 0, api.ErrLong}, {math.MinInt64, 1 << 58, 0, api.ErrLong}, {3, 1 << 62, 0, api.ErrLong},
		{0, -1, 0, api.ErrArg}, {3, -1, 0, api.ErrArg}, {1, math.MinInt, 0, api.ErrArg},
	} {
		if got, e := of(x.a).Pow(x.n); !same(got, of(x.want)) || e != x.e {
			t.Errorf("%d Pow %d: %d bits, %v", x.a, x.n, got.Bits(), e)
		}
	}
	for _, x := range samples(30) {
		for e := range 20 {
			if got, errno := x.Pow(e); !says(got, new(big.Int).Exp(value(x), big.NewInt(int64(e)), nil)) || errno != api.OK {
				t.Errorf("%v Pow %d: %v, %v", value(x), e, value(got), errno)
			}
		}
	}
}

// P2.6: the greatest powers that go, and how great a number may be.
func TestPowLong(t *testing.T) {
	for _, x := range []struct {
		a int64
		e int
	}{{2, api.MaxBits / 2}, {-3, api.MaxBits / 2}, {-7, api.MaxBits / 3}, {1<<16 - 1, api.MaxBits / 16}, {math.MinInt64, api.MaxBits / 64}} {
		if got, e := of(x.a).Pow(x.e); !says(got, new(big.Int).Exp(big.NewInt(x.a), big.NewInt(int64(x.e)), nil)) || e != api.OK {
			t.Errorf("%d Pow %d: %d bits, %v", x.a, x.e, got.Bits(), e)
		}
	}
	most, _ := of(-1).Shl(api.MaxBits - 1)
	more, _ := of(-1).Shl(api.MaxBits)
	for _, x := range []struct {
		x, want integer.Int
		e       int
		errno   api.Errno
	}{{most, most, 1, api.OK}, {most, of(1), 0, api.OK}, {most, of(0), 2, api.ErrLong}, {more, of(0), 1, api.ErrLong}, {more, of(1), 0, api.OK}, {more, of(0), -1, api.ErrArg}} {
		if got, e := x.x.Pow(x.e); !same(got, x.want) || e != x.errno {
			t.Errorf("%d bits Pow %d: %d bits, %v", x.x.Bits(), x.e, got.Bits(), e)
		}
	}
}
