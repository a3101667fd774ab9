package exact_test

import (
	"math/big"
	"slices"
	"testing"

	"swage/api"
	"swage/exact"
	"swage/integer"
)

// P10.3: the widest number stands in the grid itself, in a row that is set anew later, in the last row; at any column, below 0 or above.
func TestWidest(t *testing.T) {
	const p = "in 2 regs 3 | r2 = r0 - r1 | r2 = r2 / 2 | out r2 r0"
	for _, x := range []struct {
		text string
		grid [][]integer.Int
		want string
	}{
		{p, [][]integer.Int{list(3, 1), list(1, -1)}, "3"},
		{p, [][]integer.Int{list(1, 3), list(-1, 1)}, "3"},
		{p, [][]integer.Int{list(1, 1), list(1, -9)}, "10"},
		{p, [][]integer.Int{list(1, 1), list(1, 9)}, "9"},
		{p, [][]integer.Int{list(1, 1), list(-7, -5)}, "8"},
		{p, [][]integer.Int{list(-9), list(-5)}, "9"},
		{p, [][]integer.Int{list(0, 0), list(0, 0)}, "0"},
		{p, [][]integer.Int{{}, {}}, "0"},
		{p, [][]integer.Int{nil, nil}, "0"},
		{"in 1 regs 1 | out r0", [][]integer.Int{list(-4, 3)}, "4"},
		{"in 1 regs 1 | out r0", [][]integer.Int{list(3, -4)}, "4"},
		{"in 1 regs 1 | out r0", [][]integer.Int{{}}, "0"},
		{"in 1 regs 2 | out r1", [][]integer.Int{list(3, -4)}, "4"},
		{"in 3 regs 3 | out r0", [][]integer.Int{list(1), list(2), list(-3)}, "3"},
		{"in 3 regs 3 | out r0", [][]integer.Int{list(1), list(-3), list(2)}, "3"},
		{"in 2 regs 2 | r0 = r1 | out r0", [][]integer.Int{list(50), list(1)}, "50"},
		{"in 1 regs 1 | r0 = r0 * 100 | r0 = r0 / 50 | r0 = -r0 | out r0", [][]integer.Int{list(1, -2)}, "200"},
		{"in 1 regs 2 | r1 = r0 << 5 | r1 = r0 | out r1", [][]integer.Int{list(1, -2)}, "64"},
		{"in 1 regs 2 | r1 = r0 << 5 | out r0", [][]integer.Int{list(2, 1)}, "64"},
		{"in 1 regs 1 | r0 = -r0 | r0 = r0 * 3 | out r0", [][]integer.Int{list(5, 6, -7)}, "21"},
		{"in 1 regs 1 | r0 = r0 << 64 | r0 = r0 >> 64 | out r0", [][]integer.Int{list(1)}, "18446744073709551616"},
	} {
		if w, e := exact.Widest(read(t, x.text), x.grid); one(w) != x.want || e != api.OK {
			t.Errorf("Widest of %s over %s: %s, %v", x.text, toldAll(x.grid), one(w), e)
		}
	}
}

// P10.3: a division that fails, whatever was wide ahead of it, and whether it is needed or not.
func TestWidestFails(t *testing.T) {
	for _, p := range []api.Prog{alone(in(div, 0, 0, 0, 3)), alone(in(shl, 1, 0, 0, 64), in(div, 0, 0, 0, 3), in(move, 0, 1, 0, 0)), alone(in(shl, 0, 0, 0, 1), in(div, 1, 0, 0, 3)), alone(in(shr, 1, 0, 0, 1), in(move, 1, 0, 0, 0))} {
		for _, l := range [][]integer.Int{list(7), list(6, 6, 7), list(7, 6)} {
			if w, e := exact.Widest(p, [][]integer.Int{l}); w.Sign() != 0 || e != api.ErrExact {
				t.Errorf("Widest of %s over %s: %s, %v", show(p), told(l), one(w), e)
			}
		}
		if w, e := exact.Widest(p, [][]integer.Int{list(-6, 12)}); w.Sign() <= 0 || e != api.OK {
			t.Errorf("Widest of %s: %s, %v", show(p), one(w), e)
		}
	}
}

// P10.4
func TestMade(t *testing.T) {
	for _, x := range []struct {
		grid [][]integer.Int
		c    []integer.Int
		want string
		e    api.Errno
	}{
		{[][]integer.Int{list(1, 1), list(1, -1)}, list(5, 2), "7 3", api.OK},
		{[][]integer.Int{list(1, 1), list(1, -1)}, list(5), "", api.ErrRange},
		{[][]integer.Int{list(1, 1), list(1, -1)}, list(5, 2, 0), "", api.ErrRange},
		{[][]integer.Int{list(1, 1), list(1, -1)}, nil, "", api.ErrRange},
		{[][]integer.Int{list(1, 1), list(1)}, list(5, 2), "", api.ErrRange},
		{[][]integer.Int{list(1), list(1, 1)}, list(5, 2), "", api.ErrRange},
		{[][]integer.Int{list(1, 1), list(1, 1, 1)}, list(5, 2), "", api.ErrRange},
		{[][]integer.Int{list(1, 1), nil}, list(5, 2), "", api.ErrRange},
		{[][]integer.Int{{}}, list(5), "", api.ErrRange},
		{[][]integer.Int{list(4)}, nil, "", api.ErrRange},
		{[][]integer.Int{list(4), {}}, list(5), "", api.ErrRange},
		{[][]integer.Int{list(1, 2, 3)}, list(-4, 5, 6), "24", api.OK},
		{[][]integer.Int{list(3), list(0), list(-3)}, list(7), "21 0 -21", api.OK},
		{[][]integer.Int{{}, nil, {}}, nil, "0 0 0", api.OK},
		{[][]integer.Int{{}, nil}, []integer.Int{}, "0 0", api.OK},
		{nil, nil, "", api.OK},
		{nil, list(1, 2), "", api.OK},
		{[][]integer.Int{}, list(1), "", api.OK},
	} {
		l, e := exact.Made(x.grid, x.c)
		if told(l) != x.want || e != x.e || e == api.OK && len(l) != len(x.grid) || e != api.OK && len(l) != 0 {
			t.Errorf("Made of %s and %s: %s, %v", toldAll(x.grid), told(x.c), told(l), e)
		}
	}
}

// P10.4: the rows need fit no program: they may be more than MaxRegs, and longer than MaxCoeffs.
func TestMadeMany(t *testing.T) {
	m := maker(8)
	for k := range 60 {
		columns := []int{0, 1, 2, 5, 40, mostCoeffs, mostCoeffs + 1}[k%7]
		rows := []int{1, 3, mostRegs + 1}[k%3]
		if columns > 40 {
			rows = 2
		}
		grid, c := make([][]*big.Int, rows), m.numbers(columns, big.NewInt(1))
		var want []*big.Int
		for i := range grid {
			grid[i] = m.numbers(columns, big.NewInt(1))
			sum := new(big.Int)
			for j, v := range grid[i] {
				sum.Add(sum, new(big.Int).Mul(v, c[j]))
			}
			want = append(want, sum)
		}
		if l, e := exact.Made(gridOf(grid), integers(c)); !sayAll(l, want) || e != api.OK {
			t.Errorf("Made of %d rows of %d: %d, %v", rows, columns, len(l), e)
		}
	}
}

// P10.1 to P10.3, R2: of a program that may not be every call answers ErrProg, or nothing, ahead of all else, and 0 beside it.
func TestWrongPrograms(t *testing.T) {
	for _, p := range wrong() {
		for n := range 5 {
			numbers := slices.Repeat(list(1), n)
			if outs, k, e := exact.Run(p, numbers); len(outs) != 0 || k != 0 || e != api.ErrProg {
				t.Errorf("Run of %s: %s, %d, %v", show(p), told(outs), k, e)
			}
			for k, x := range exact.Trace(p, numbers) {
				t.Errorf("Trace of %s: %d, %s", show(p), k, one(x))
			}
			for _, columns := range []int{0, 1, 2, mostCoeffs + 1} {
				wrongOver(t, p, blank(n, columns))
			}
		}
		wrongOver(t, p, nil)
		wrongOver(t, p, [][]integer.Int{list(1), list(1, 2)})
		wrongOver(t, p, [][]integer.Int{list(1, 0), list(0, 1)})
	}
}

// wrongOver asks that a program that may not be is refused by all calls that take a grid.
func wrongOver(t *testing.T, p api.Prog, grid [][]integer.Int) {
	t.Helper()
	outs, k, a := exact.Rows(p, grid)
	judged, b := exact.Judge(p, grid)
	w, c := exact.Widest(p, grid)
	if len(outs) != 0 || k != 0 || judged != 0 || w.Sign() != 0 || a != api.ErrProg || b != api.ErrProg || c != api.ErrProg {
		t.Errorf("%s over %d rows: %d, %d, %d, %s, %v, %v, %v", show(p), len(grid), len(outs), k, judged, one(w), a, b, c)
	}
	for k, l := range exact.Steps(p, grid) {
		t.Errorf("Steps of %s: %d, %s", show(p), k, told(l))
	}
}

// R2: a program that may not be, though an instruction ahead of the wrong one would fail.
func TestWrongBehindFailing(t *testing.T) {
	p := alone(in(div, 0, 0, 0, 2), in(move, 0, 2, 0, 0))
	if outs, k, e := exact.Run(p, list(1)); len(outs) != 0 || k != 0 || e != api.ErrProg {
		t.Errorf("Run: %s, %d, %v", told(outs), k, e)
	}
	wrongOver(t, p, [][]integer.Int{list(1)})
	for k := range exact.Trace(p, list(2)) {
		t.Errorf("Trace: %d", k)
	}
}
