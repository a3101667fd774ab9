package point_test

import (
	"math"
	"math/big"
	"testing"

	"swage/api"
	"swage/integer"
	"swage/point"
)

// show is the texts of numbers, with a blank behind each.
func show(l []integer.Int) string {
	text := ""
	for _, x := range l {
		text += x.Text() + " "
	}
	return text
}

// powers are a point's powers, by numbers of another make.
func powers(p api.Point, n int) string {
	text := ""
	for j := range n {
		a := new(big.Int).Exp(big.NewInt(int64(p.A)), big.NewInt(int64(j)), nil)
		b := new(big.Int).Exp(big.NewInt(int64(p.B)), big.NewInt(int64(n-1-j)), nil)
		text += a.Mul(a, b).String() + " "
	}
	return text
}

// P6.3
func TestPowers(t *testing.T) {
	for _, x := range []struct {
		p    api.Point
		n    int
		want string
	}{
		{pt(2, 3), 3, "9 6 4 "}, {pt(0, 5), 2, "5 0 "}, {pt(1, 0), 3, "0 0 1 "}, {pt(0, 0), 0, ""}, {pt(0, 0), 1, "1 "}, {pt(0, 0), 2, "0 0 "}, {pt(0, 0), 3, "0 0 0 "}, {pt(16, -16), 0, ""}, {pt(16, -16), 1, "1 "}, {pt(16, -16), 2, "-16 16 "}, {pt(-1, 1), 4, "1 -1 1 -1 "}, {pt(1, -1), 4, "-1 1 -1 1 "}, {pt(2, 1), 5, "1 2 4 8 16 "}, {pt(-3, 0), 3, "0 0 9 "}, {pt(4, 6), 3, "36 24 16 "}, {pt(0, 1), 2, "1 0 "},
		{pt(16, 0), 16, "0 0 0 0 0 0 0 0 0 0 0 0 0 0 0 1152921504606846976 "}, {pt(-16, 0), 16, "0 0 0 0 0 0 0 0 0 0 0 0 0 0 0 -1152921504606846976 "},
	} {
		if l, e := point.Powers(x.p, x.n); show(l) != x.want || len(l) != x.n || e != api.OK {
			t.Errorf("Powers(%v, %d): %s, %v", x.p, x.n, show(l), e)
		}
	}
	for _, p := range every() {
		for n := range 2*api.MaxParts + 1 {
			if l, e := point.Powers(p, n); show(l) != powers(p, n) || len(l) != n || e != api.OK {
				t.Errorf("Powers(%v, %d): %s, %v", p, n, show(l), e)
			}
		}
	}
}

// P6.3, R2
func TestPowersWrong(t *testing.T) {
	wrong := []int{math.MinInt, -17, -2, -1, 17, 18, 1 << 32, math.MaxInt}
	for _, p := range few() {
		for _, n := range wrong {
			if l, e := point.Powers(p, n); len(l) != 0 || e != api.ErrArg {
				t.Errorf("Powers(%v, %d): %s, %v", p, n, show(l), e)
			}
		}
	}
	for _, p := range outside() {
		for _, n := range append(wrong, 0, 1, 2, 16) {
			if l, e := point.Powers(p, n); len(l) != 0 || e != api.ErrArg {
				t.Errorf("Powers(%v, %d): %s, %v", p, n, show(l), e)
			}
		}
	}
}

// P6.4
func TestBezout(t *testing.T) {
	for p, want := range map[api.Point][3]int{
		{A: 4, B: 6}: {2, -1, 1}, {A: 3}: {3, 1, 0}, {B: -2}: {2, 0, -1}, {}: {}, {A: -3}: {3, -1, 0}, {A: 16}: {16, 1, 0}, {A: -16}: {16, -1, 0}, {B: 16}: {16, 0, 1}, {B: -16}: {16, 0, -1}, {A: 1, B: 1}: {1, 0, 1}, {A: -1, B: -1}: {1, 0, -1}, {A: 5, B: 1}: {1, 0, 1}, {A: 16, B: 16}: {16, 0, 1}, {A: 8, B: 16}: {8, 1, 0}, {A: -8, B: 16}: {8, 1, 1},
		{A: 1, B: 2}: {1, 1, 0}, {A: -1, B: 2}: {1, 1, 1}, {A: -1, B: -2}: {1, 1, -1}, {A: 3, B: 2}: {1, 1, -1}, {A: 3, B: -2}: {1, 1, 1}, {A: 6, B: 4}: {2, 1, -1}, {A: 7, B: 16}: {1, 7, -3}, {A: -7, B: 16}: {1, -7, -3}, {A: 9, B: 16}: {1, -7, 4}, {A: 2, B: 3}: {1, -1, 1}, {A: 16, B: 15}: {1, 1, -1}, {A: 15, B: 16}: {1, -1, 1},
	} {
		if g, u, v, e := point.Bezout(p); [3]int{g, u, v} != want || e != api.OK {
			t.Errorf("Bezout(%v): %d, %d, %d, %v", p, g, u, v, e)
		}
	}
}

// P6.4: each point that is in, by asking each u that may be.
func TestBezoutOfEvery(t *testing.T) {
	for _, p := range every() {
		g, u, v, e := point.Bezout(p)
		if g != common(p) || u*p.A+v*p.B != g || e != api.OK {
			t.Errorf("Bezout(%v): %d, %d, %d, %v", p, g, u, v, e)
		}
		if p.B == 0 {
			continue
		}
		for other := -100; other <= 100; other++ {
			if (g-other*p.A)%p.B == 0 && (amount(other) < amount(u) || amount(other) == amount(u) && other > u) {
				t.Errorf("Bezout(%v): %d is not the u, %d is ahead of it", p, u, other)
			}
		}
	}
}

// P6.4, R2
func TestBezoutWrong(t *testing.T) {
	for _, p := range outside() {
		if g, u, v, e := point.Bezout(p); [3]int{g, u, v} != [3]int{} || e != api.ErrArg {
			t.Errorf("Bezout(%v): %d, %d, %d, %v", p, g, u, v, e)
		}
	}
}
