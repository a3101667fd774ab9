package point_test

import (
	"slices"
	"strconv"
	"testing"

	"swage/api"
	"swage/integer"
	"swage/point"
)

// normed is the Norm of a point that is in.
func normed(t *testing.T, p api.Point) api.Point {
	t.Helper()
	n, e := point.Norm(p)
	if e != api.OK {
		t.Errorf("Norm(%v): %v", p, e)
	}
	return n
}

// one is One of two points that are in.
func one(t *testing.T, p, q api.Point) bool {
	t.Helper()
	same, e := point.One(p, q)
	if e != api.OK {
		t.Errorf("One(%v, %v): %v", p, q, e)
	}
	return same
}

// P6.7
func TestBezoutIsSmall(t *testing.T) {
	for _, p := range every() {
		if _, u, v, _ := point.Bezout(p); amount(u) > most || amount(v) > most {
			t.Errorf("Bezout(%v): %d, %d", p, u, v)
		}
	}
	for p := range point.All(most) {
		if g, _, _, e := point.Bezout(p); g != 1 || e != api.OK {
			t.Errorf("Bezout(%v): %d, %v", p, g, e)
		}
	}
}

// P6.7
func TestNormOfNorm(t *testing.T) {
	for _, p := range every() {
		n := normed(t, p)
		if normed(t, n) != n || !point.In(n) || point.None(n) != point.None(p) || !one(t, n, p) {
			t.Errorf("Norm(%v): %v", p, n)
		}
	}
}

// P6.7: one, the same Norm, Det 0: of two points that are not none all three, or none of them.
func TestOneIsSameNorm(t *testing.T) {
	all := every()
	for _, p := range all {
		n := normed(t, p)
		for _, q := range all {
			there, e := point.Det(p, q)
			back, f := point.Det(q, p)
			if there != -back || amount(there) > 512 || e != api.OK || f != api.OK {
				t.Errorf("Det(%v, %v): %d, the other way %d", p, q, there, back)
			}
			if point.None(p) || point.None(q) {
				continue
			}
			if same := one(t, p, q); same != (n == normed(t, q)) || same != (there == 0) {
				t.Errorf("%v, %v: %t, Det %d", p, q, same, there)
			}
		}
	}
}

// P6.7: to be one is an equivalence among points that are not none.
func TestOneIsEquivalence(t *testing.T) {
	var all []api.Point
	for _, p := range every() {
		if !point.None(p) && amount(p.A) <= 4 && amount(p.B) <= 4 {
			all = append(all, p)
		}
	}
	for _, p := range all {
		if !one(t, p, p) {
			t.Errorf("%v is not one with itself", p)
		}
		for _, q := range all {
			if one(t, p, q) != one(t, q, p) {
				t.Errorf("%v, %v: the order matters", p, q)
			}
			for _, r := range all {
				if one(t, p, q) && one(t, q, r) && !one(t, p, r) {
					t.Errorf("%v, %v, %v", p, q, r)
				}
			}
		}
	}
}

// P6.8
func TestPowersScaled(t *testing.T) {
	for _, p := range every() {
		for c := -most; c <= most; c++ {
			scaled := pt(c*p.A, c*p.B)
			if !point.In(scaled) {
				continue
			}
			for n := 1; n <= 2*api.MaxParts; n++ {
				plain, _ := point.Powers(p, n)
				factor, _ := integer.Of(int64(c)).Pow(n - 1)
				for i, x := range plain {
					plain[i] = x.Mul(factor)
				}
				if l, e := point.Powers(scaled, n); show(l) != show(plain) || e != api.OK {
					t.Errorf("Powers(%v, %d): %s, %v", scaled, n, show(l), e)
				}
			}
		}
	}
}

// P6.8: each norm once.
func TestAllTellsEachNorm(t *testing.T) {
	for h := 1; h <= most; h++ {
		times := map[api.Point]int{}
		for p := range point.All(h) {
			times[p]++
		}
		for _, p := range every() {
			want := 0
			if p != pt(0, 0) && normed(t, p) == p && amount(p.A) <= h && amount(p.B) <= h {
				want = 1
			}
			if times[p] != want {
				t.Errorf("All(%d) tells %v %d times", h, p, times[p])
			}
			delete(times, p)
		}
		if len(times) != 0 {
			t.Errorf("All(%d) tells %v", h, times)
		}
	}
}

// P6.8
func TestTextAndBack(t *testing.T) {
	all := every()
	for i := range all {
		taken(t, point.Text(all[i:i+1]), all[i])
		l := all[i:min(i+7, len(all))]
		taken(t, point.Text(l), l...)
	}
	taken(t, point.Text(all), all...)
	taken(t, point.Text(nil))
}

// R3: what is handed in stays as it is, the room behind its end too.
func TestListsStay(t *testing.T) {
	l := append(few(), few()...)
	was := slices.Clone(l)
	for n := range len(l) {
		point.Twins(l[:n])
		point.Text(l[:n])
		if !slices.Equal(l, was) {
			t.Fatalf("%d of them: %v", n, l)
		}
	}
}

// R3: lists that are answered are new, and have nothing behind their ends.
func TestListsAreNew(t *testing.T) {
	for n := range 2*api.MaxParts + 1 {
		first, _ := point.Powers(pt(2, 3), n)
		second, _ := point.Powers(pt(2, 3), n)
		for _, x := range first[n:cap(first)] {
			if x.Sign() != 0 {
				t.Errorf("behind the end of %d powers: %s", n, x.Text())
			}
		}
		for i := range first[:cap(first)] {
			first[:cap(first)][i] = integer.Of(-99)
		}
		if show(second) != powers(pt(2, 3), n) {
			t.Errorf("%d powers: now %s", n, show(second))
		}
	}
	for n := range 20 {
		text := point.Text(norms(most)[:n])
		first, _ := point.Read(text)
		second, _ := point.Read(text)
		for _, p := range first[len(first):cap(first)] {
			if p != (api.Point{}) {
				t.Errorf("behind the end of %s: %v", text, p)
			}
		}
		for i := range first[:cap(first)] {
			first[:cap(first)][i] = pt(-9, -9)
		}
		if !slices.Equal(second, norms(most)[:n]) {
			t.Errorf("%s: now %v", text, second)
		}
	}
}

// R3: what was wrong keeps nothing either: errors answer no room behind the end of a list.
func TestNothingBesideErrors(t *testing.T) {
	l, spot := point.Read("1 2 3 x")
	if len(l) != 0 || spot.Err != api.ErrText {
		t.Errorf("Read: %v, %v", l, spot)
	}
	for _, p := range l[:cap(l)] {
		t.Errorf("behind the end: %v", p)
	}
	if powers, e := point.Powers(pt(1, 2), 17); cap(powers) != 0 || e != api.ErrArg {
		t.Errorf("Powers: %s, %v", show(powers), e)
	}
}

// R5: lists and iterators may be asked by several goroutines at one time.
func TestAtOneTime(t *testing.T) {
	l := []api.Point{pt(0, 1), pt(1, 1), pt(1, 0), pt(2, 2)}
	all := point.All(2)
	answers := make(chan string)
	for range 8 {
		go func() {
			i, j, _ := point.Twins(l)
			powers, _ := point.Powers(l[3], 4)
			answers <- point.Text(slices.Collect(all)) + " " + point.Text(l) + " " + show(powers) + strconv.Itoa(i) + strconv.Itoa(j)
		}()
	}
	for range 8 {
		if got := <-answers; got != "0 inf 1 -1 2 -2 1/2 -1/2 0 1 inf (2:2) 8 8 8 8 13" {
			t.Error(got)
		}
	}
}
