package synth_test

import (
	"slices"
	"testing"

	"swage/api"
	"swage/synth"
)

// divisors are those of points by the chapter's words: all numbers above 1 are tried, the rising ones first.
func divisors(l []api.Point) []int {
	var found []int
	for n := 2; n <= mostConst; n++ {
		for i, p := range l {
			for _, q := range l[:i] {
				d := amount(p.A*q.B-q.A*p.B) / common(p) / common(q)
				if d == n && !slices.Contains(found, n) {
					found = append(found, n)
				}
			}
		}
	}
	return found
}

// P12.6: the chapter's examples, and others written out.
func TestDivisors(t *testing.T) {
	for s, want := range map[string][]int{
		"0 1 -1 2 inf": {2, 3}, "1/2 3 inf": {2, 5}, "0 inf": nil, "0": nil, "16": nil, "(16:16)": nil, "0 1 inf": nil, "inf 1 0": nil, "0 1 -1": {2}, "(0:16) (16:16) (-16:16)": {2}, "(4:2) (0:-3)": {2}, "inf 2 -1 1 0": {2, 3},
		"16 -16": {32}, "15/16 -16/15": {481}, "16/15 -15/16": {481}, "(-15:-16) (16:-15)": {481}, "0 2 4": {2, 4}, "0 16 8": {8, 16}, "1 2 4 8 16": {2, 3, 4, 6, 7, 8, 12, 14, 15}, "0 7": {7}, "7 0": {7},
	} {
		if found, e := synth.Divisors(points(t, s)); !slices.Equal(found, want) || e != api.OK {
			t.Errorf("Divisors of %s: %v, %v", s, found, e)
		}
	}
}

// P12.6: of many lists, and of every two norms.
func TestDivisorsLists(t *testing.T) {
	m := maker(31)
	for _, l := range slices.Concat(edges(t), m.lists(12)) {
		if found, e := synth.Divisors(l); !slices.Equal(found, divisors(l)) || e != api.OK {
			t.Errorf("Divisors of %v: %v, %v, not %v", l, found, e, divisors(l))
		}
	}
	l := norms()
	for i, p := range l {
		for _, q := range l[:i] {
			found, e := synth.Divisors([]api.Point{p, q})
			d := amount(p.A*q.B - q.A*p.B)
			if e != api.OK || d == 1 && len(found) != 0 || d > 1 && !slices.Equal(found, []int{d}) {
				t.Errorf("Divisors of %v, %v: %v, %v", p, q, found, e)
			}
		}
	}
}
