package synth_test

import (
	"slices"
	"testing"

	"swage/api"
	"swage/synth"
)

// P12.1: the chapter's examples, and others written out.
func TestRight(t *testing.T) {
	for s, want := range map[string]bool{
		"0 1 inf": true, "0 1 (2:2)": false, "": false, "0": true, "inf": true, "(0:0)": false, "(0:-3) 5": true, "0 (0:-3)": false, "inf (-16:0)": false, "(16:0) (0:16)": true,
		"1 -1": true, "(1:-1) -1": false, "1/2 (8:16)": false, "1/2 2": true, "1/2 (-8:16)": true, "16 -16 1/16 -1/16": true, "(16:16) (-16:16)": true, "(16:16) (-16:-16)": false, "0 (0:0)": false, "1 2 3 4 5 6 7 8 9 10 11 12 13 14 15": true, "1 2 3 4 5 6 7 8 9 10 11 12 13 14 15 16": false,
	} {
		if right := synth.Right(points(t, s)); right != want {
			t.Errorf("Right of %s: %v", s, right)
		}
	}
	if synth.Right([]api.Point{at(0, 1), at(17, 1)}) {
		t.Error("Right of 0 17")
	}
}

// P12.1: every point alone is right but for none; every two norms are right together, and no point with itself.
func TestRightPairs(t *testing.T) {
	for _, p := range every() {
		if right := synth.Right([]api.Point{p}); right != (p != at(0, 0)) {
			t.Errorf("Right of %v: %v", p, right)
		}
	}
	l := norms()
	for _, p := range l {
		for _, q := range l {
			if right := synth.Right([]api.Point{p, q}); right != (p != q) {
				t.Errorf("Right of %v, %v: %v", p, q, right)
			}
		}
	}
}

// P12.1: lists of all lengths are right, as long as they may be, and those that are not so are not.
func TestRightLists(t *testing.T) {
	m := maker(1)
	for _, l := range slices.Concat(edges(t), m.lists(6)) {
		if !synth.Right(l) {
			t.Errorf("Right of %v", l)
		}
	}
	for _, l := range wrongPoints() {
		if synth.Right(l) {
			t.Errorf("Right of %d points, %v", len(l), l[:min(len(l), 20)])
		}
	}
}

// P12.1: the grid has the points' powers, row by row, in their order.
func TestGrid(t *testing.T) {
	m := maker(2)
	for _, l := range slices.Concat(edges(t), m.lists(6)) {
		grid, e := synth.Grid(l)
		if len(grid) != len(l) || e != api.OK {
			t.Fatalf("Grid of %v: %d rows, %v", l, len(grid), e)
		}
		for i, p := range l {
			for j, x := range grid[i] {
				if want := weight(p, j, len(l)); value(x).Cmp(want) != 0 || len(grid[i]) != len(l) {
					t.Errorf("Grid of %v, row %d: %s at %d of %d, not %v", l, i, x.Text(), j, len(grid[i]), want)
				}
			}
		}
	}
}

// P12.1, P12.2, P12.4, P12.6, P12.7: ErrArg of points that are not right, by every call, and nothing beside it (R2).
func TestRefused(t *testing.T) {
	for _, l := range wrongPoints() {
		grid, e := synth.Grid(l)
		if len(grid) != 0 || e != api.ErrArg {
			t.Errorf("Grid of %v: %v, %v", l, grid, e)
		}
		p, e := synth.Program(l)
		if !zero(p) || e != api.ErrArg {
			t.Errorf("Program of %v: %s, %v", l, show(p), e)
		}
		for _, order := range [][]int{rising(len(l)), nil, {0}} {
			if p, e := synth.Ordered(l, order); !zero(p) || e != api.ErrArg {
				t.Errorf("Ordered of %v: %s, %v", l, show(p), e)
			}
		}
		p, order, e := synth.Best(l)
		if !zero(p) || len(order) != 0 || e != api.ErrArg {
			t.Errorf("Best of %v: %s, %v, %v", l, show(p), order, e)
		}
		found, e := synth.Divisors(l)
		if len(found) != 0 || e != api.ErrArg {
			t.Errorf("Divisors of %v: %v, %v", l, found, e)
		}
	}
}
