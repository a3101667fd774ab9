package point_test

import (
	"math"
	"testing"

	"swage/api"
	"swage/point"
)

// P6.1
func TestIn(t *testing.T) {
	for _, a := range edges() {
		for _, b := range edges() {
			if got := point.In(pt(a, b)); got != (within(a) && within(b)) {
				t.Errorf("In(%d, %d): %t", a, b, got)
			}
		}
	}
	for _, p := range every() {
		if !point.In(p) {
			t.Errorf("%v is not in", p)
		}
	}
}

// P6.1
func TestNone(t *testing.T) {
	for _, p := range append(every(), outside()...) {
		if got := point.None(p); got != (p.A == 0 && p.B == 0) {
			t.Errorf("None(%v): %t", p, got)
		}
	}
}

// P6.1
func TestNorm(t *testing.T) {
	for _, x := range [][2]api.Point{
		{pt(4, -6), pt(-2, 3)}, {pt(-3, 0), pt(1, 0)}, {pt(0, -5), pt(0, 1)}, {pt(0, 0), pt(0, 0)}, {pt(0, 1), pt(0, 1)}, {pt(1, 0), pt(1, 0)}, {pt(-1, 0), pt(1, 0)}, {pt(16, 0), pt(1, 0)}, {pt(-1, -1), pt(1, 1)}, {pt(1, -1), pt(-1, 1)}, {pt(16, 16), pt(1, 1)}, {pt(-16, 16), pt(-1, 1)}, {pt(16, -1), pt(-16, 1)}, {pt(-16, -12), pt(4, 3)}, {pt(15, 16), pt(15, 16)}, {pt(0, 16), pt(0, 1)},
	} {
		if n, e := point.Norm(x[0]); n != x[1] || e != api.OK {
			t.Errorf("Norm(%v): %v, %v", x[0], n, e)
		}
	}
	for _, p := range every() {
		if n, e := point.Norm(p); digits(n) != normal(p) || e != api.OK {
			t.Errorf("Norm(%v): %v, %v", p, n, e)
		}
	}
	for _, p := range outside() {
		if n, e := point.Norm(p); n != (api.Point{}) || e != api.ErrArg {
			t.Errorf("Norm(%v): %v, %v", p, n, e)
		}
	}
}

// P6.1
func TestOneAndDet(t *testing.T) {
	all := every()
	for _, p := range all {
		for _, q := range all {
			both := p.A*q.B == q.A*p.B
			if (p == pt(0, 0)) != (q == pt(0, 0)) {
				both = false
			}
			if one, e := point.One(p, q); one != both || e != api.OK {
				t.Errorf("One(%v, %v): %t, %v", p, q, one, e)
			}
			if d, e := point.Det(p, q); d != p.A*q.B-q.A*p.B || e != api.OK {
				t.Errorf("Det(%v, %v): %d, %v", p, q, d, e)
			}
		}
	}
}

// P6.1
func TestOne(t *testing.T) {
	for _, x := range []struct {
		p, q api.Point
		want bool
	}{
		{pt(0, 0), pt(0, 0), true}, {pt(0, 0), pt(0, 1), false}, {pt(1, 0), pt(0, 0), false}, {pt(0, 0), pt(5, 5), false}, {pt(2, 2), pt(1, 1), true}, {pt(1, 0), pt(-16, 0), true}, {pt(0, 1), pt(0, -16), true}, {pt(1, 0), pt(0, 1), false}, {pt(1, 2), pt(-8, -16), true}, {pt(1, 2), pt(-1, 2), false}, {pt(1, 2), pt(2, 1), false}, {pt(16, 15), pt(15, 14), false},
	} {
		if one, e := point.One(x.p, x.q); one != x.want || e != api.OK {
			t.Errorf("One(%v, %v): %t, %v", x.p, x.q, one, e)
		}
	}
}

// P6.1
func TestDet(t *testing.T) {
	for _, x := range []struct {
		p, q api.Point
		want int
	}{
		{pt(1, 2), pt(3, 4), -2}, {pt(3, 4), pt(1, 2), 2}, {pt(0, 1), pt(1, 0), -1}, {pt(1, 0), pt(0, 1), 1}, {pt(0, 0), pt(7, 3), 0}, {pt(2, 2), pt(1, 1), 0}, {pt(16, 16), pt(-16, 16), 512}, {pt(-16, 16), pt(16, 16), -512}, {pt(-16, -16), pt(-16, 16), -512},
	} {
		if d, e := point.Det(x.p, x.q); d != x.want || e != api.OK {
			t.Errorf("Det(%v, %v): %d, %v", x.p, x.q, d, e)
		}
	}
}

// P6.1, R2: one that is not in, on either side, and on both.
func TestOneAndDetOutside(t *testing.T) {
	for _, p := range outside() {
		for _, q := range append(few(), p, pt(-16, 16)) {
			for _, x := range [][2]api.Point{{p, q}, {q, p}} {
				if one, e := point.One(x[0], x[1]); one || e != api.ErrArg {
					t.Errorf("One(%v, %v): %t, %v", x[0], x[1], one, e)
				}
				if d, e := point.Det(x[0], x[1]); d != 0 || e != api.ErrArg {
					t.Errorf("Det(%v, %v): %d, %v", x[0], x[1], d, e)
				}
			}
		}
	}
}

// P6.2
func TestTwins(t *testing.T) {
	far := pt(17, 17)
	for _, x := range []struct {
		l    []api.Point
		i, j int
		ok   bool
	}{
		{nil, 0, 0, false}, {[]api.Point{}, 0, 0, false}, {[]api.Point{pt(1, 1)}, 0, 0, false}, {[]api.Point{pt(0, 0)}, 0, 0, false},
		{[]api.Point{pt(0, 1), pt(1, 1), pt(1, 0), pt(2, 2), pt(0, 1)}, 1, 3, true}, {[]api.Point{pt(0, 1), pt(1, 1), pt(2, 1)}, 0, 0, false},
		{[]api.Point{pt(0, 0), pt(1, 1), pt(0, 0)}, 0, 2, true}, {[]api.Point{pt(0, 0), pt(1, 1), pt(0, 1)}, 0, 0, false}, {[]api.Point{pt(1, 0), pt(-1, 0)}, 0, 1, true}, {[]api.Point{pt(0, 1), pt(1, 1), pt(-1, -1), pt(0, 1)}, 1, 2, true},
		{[]api.Point{far, far}, 0, 0, false}, {[]api.Point{far, pt(1, 1), far, pt(1, 1)}, 1, 3, true}, {[]api.Point{pt(1, 1), far}, 0, 0, false}, {[]api.Point{pt(0, 0), pt(17, 0), pt(0, 17), pt(0, 0)}, 0, 3, true}, {[]api.Point{pt(math.MinInt, math.MinInt), pt(math.MinInt, math.MinInt)}, 0, 0, false}, {[]api.Point{pt(1, 1), pt(1, 1), pt(1, 1)}, 0, 1, true},
	} {
		if i, j, ok := point.Twins(x.l); i != x.i || j != x.j || ok != x.ok {
			t.Errorf("Twins(%v): %d, %d, %t", x.l, i, j, ok)
		}
	}
}

// sought are the first two points that are one, found by asking each two.
func sought(l []api.Point) (int, int, bool) {
	for j, q := range l {
		for i, p := range l[:j] {
			if within(p.A) && within(p.B) && within(q.A) && within(q.B) && normal(p) == normal(q) {
				return i, j, true
			}
		}
	}
	return 0, 0, false
}

// P6.2: each list of up to 3 points out of a few, with one more ahead.
func TestTwinsOfFew(t *testing.T) {
	lists := [][]api.Point{{pt(3, 7)}}
	for begin := 0; begin < len(lists) && len(lists[begin]) < 4; begin++ {
		for _, p := range few() {
			lists = append(lists, append(append([]api.Point{}, lists[begin]...), p))
		}
	}
	for _, l := range lists {
		wantI, wantJ, want := sought(l)
		if i, j, ok := point.Twins(l); i != wantI || j != wantJ || ok != want {
			t.Errorf("Twins(%v): %d, %d, %t", l, i, j, ok)
		}
	}
}

// P6.2: as many points as there are without two that are one, and one more; points that are not in stand between.
func TestTwinsOfMany(t *testing.T) {
	l := []api.Point{pt(0, 0)}
	for p := range point.All(most) {
		l = append(l, pt(17, p.B), p, pt(p.A, math.MinInt))
	}
	if i, j, ok := point.Twins(l); i != 0 || j != 0 || ok {
		t.Errorf("Twins of norms: %d, %d, %t", i, j, ok)
	}
	for _, p := range every() {
		where := 0
		for normal(l[where]) != normal(p) || !within(l[where].A) || !within(l[where].B) {
			where++
		}
		if i, j, ok := point.Twins(append(l, p, pt(0, 0))); i != where || j != len(l) || !ok {
			t.Errorf("Twins of norms and %v: %d, %d, %t", p, i, j, ok)
		}
	}
}

// P6.2, R1: a long list of points that are not in.
func TestTwinsOfALongList(t *testing.T) {
	const n = 1 << 20
	l := make([]api.Point, n)
	for i := range l {
		l[i] = pt(i+17, i)
	}
	if i, j, ok := point.Twins(l); i != 0 || j != 0 || ok {
		t.Errorf("%d, %d, %t", i, j, ok)
	}
	l[5], l[n-1] = pt(3, -6), pt(-1, 2)
	if i, j, ok := point.Twins(l); i != 5 || j != n-1 || !ok {
		t.Errorf("%d, %d, %t", i, j, ok)
	}
}
