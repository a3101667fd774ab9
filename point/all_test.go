package point_test

import (
	"cmp"
	"math"
	"slices"
	"testing"

	"swage/api"
	"swage/point"
)

// ahead is how two norms stand in All, told by numbers that are compared one behind the other.
func ahead(p, q api.Point) int {
	key := func(p api.Point) []int {
		switch p {
		case pt(0, 1):
			return []int{-2}
		case pt(1, 0):
			return []int{-1}
		}
		return []int{max(amount(p.A), amount(p.B)), p.B, amount(p.A), -cmp.Compare(p.A, 0)}
	}
	return slices.Compare(key(p), key(q))
}

// norms are the norms whose coordinates are at most h, in order, sorted out of every point that is in.
func norms(h int) []api.Point {
	var l []api.Point
	for _, p := range every() {
		if p != pt(0, 0) && digits(p) == normal(p) && amount(p.A) <= h && amount(p.B) <= h {
			l = append(l, p)
		}
	}
	slices.SortFunc(l, ahead)
	return l
}

// P6.5
func TestAll(t *testing.T) {
	if got := slices.Collect(point.All(1)); !slices.Equal(got, []api.Point{pt(0, 1), pt(1, 0), pt(1, 1), pt(-1, 1)}) {
		t.Errorf("All(1): %v", got)
	}
	third := []api.Point{pt(0, 1), pt(1, 0), pt(1, 1), pt(-1, 1), pt(2, 1), pt(-2, 1), pt(1, 2), pt(-1, 2), pt(3, 1), pt(-3, 1), pt(3, 2), pt(-3, 2), pt(1, 3), pt(-1, 3), pt(2, 3), pt(-2, 3)}
	if got := slices.Collect(point.All(3)); !slices.Equal(got, third) {
		t.Errorf("All(3): %v", got)
	}
	for h := 1; h <= most; h++ {
		if got := slices.Collect(point.All(h)); !slices.Equal(got, norms(h)) {
			t.Errorf("All(%d): %v", h, got)
		}
	}
}

// P6.5
func TestAllOfNothing(t *testing.T) {
	for _, h := range []int{math.MinInt, -17, -16, -2, -1, 0, 17, 18, 32, 1 << 32, math.MaxInt} {
		if got := slices.Collect(point.All(h)); len(got) != 0 {
			t.Errorf("All(%d): %v", h, got)
		}
	}
}

// R6: left behind each point, and gone through again.
func TestAllLeftEarly(t *testing.T) {
	for _, h := range []int{1, 2, 5, most} {
		all := point.All(h)
		want := norms(h)
		for n := 1; n <= len(want); n++ {
			var got []api.Point
			for p := range all {
				got = append(got, p)
				if len(got) == n {
					break
				}
			}
			if !slices.Equal(got, want[:n]) {
				t.Errorf("All(%d), left behind %d points: %v", h, n, got)
			}
		}
		if got := slices.Collect(all); !slices.Equal(got, want) {
			t.Errorf("All(%d), again: %v", h, got)
		}
	}
}

// R6: one iterator, gone through within itself.
func TestAllWithinItself(t *testing.T) {
	all, want := point.All(2), norms(2)
	var outer []api.Point
	for p := range all {
		outer = append(outer, p)
		var inner []api.Point
		for q := range all {
			if q == p {
				break
			}
			inner = append(inner, q)
		}
		if !slices.Equal(inner, want[:len(outer)-1]) {
			t.Errorf("within %v: %v", p, inner)
		}
	}
	if !slices.Equal(outer, want) {
		t.Errorf("%v", outer)
	}
}
