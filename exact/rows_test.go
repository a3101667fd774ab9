package exact_test

import (
	"math/big"
	"slices"
	"testing"

	"swage/api"
	"swage/exact"
	"swage/integer"
)

// compareRows holds all that Rows, Judge, Steps and Widest tell of a program and a grid that fits it against runs on its columns.
func compareRows(t *testing.T, p api.Prog, grid [][]*big.Int) {
	t.Helper()
	want, own := followed(p, grid), gridOf(grid)
	done, wantE := len(want.set), api.ErrExact
	wantWidest := new(big.Int)
	if done == len(p.Code) {
		done, wantE = 0, api.OK
		wantWidest = widest(slices.Concat(grid, want.set)...)
	}
	outs, k, e := exact.Rows(p, own)
	if k != done || e != wantE || !slices.EqualFunc(outs, want.outs, sayAll) {
		t.Errorf("Rows of %s over %v: %s, %d, %v, not %d, %v", show(p), grid, toldAll(outs), k, e, done, wantE)
	}
	if k, e := exact.Judge(p, own); k != done || e != wantE {
		t.Errorf("Judge of %s over %v: %d, %v, not %d, %v", show(p), grid, k, e, done, wantE)
	}
	if w, e := exact.Widest(p, own); !says(w, wantWidest) || e != wantE {
		t.Errorf("Widest of %s over %v: %s, %v, not %v, %v", show(p), grid, one(w), e, wantWidest, wantE)
	}
	at := 0
	for k, l := range exact.Steps(p, own) {
		if k != at || k >= len(want.set) || !sayAll(l, want.set[k]) {
			t.Fatalf("Steps of %s over %v: %d, %s", show(p), grid, k, told(l))
		}
		at++
	}
	if at != len(want.set) {
		t.Errorf("Steps of %s over %v: %d, not %d", show(p), grid, at, len(want.set))
	}
}

// P10.2: programs, grids, and the rows that the outs hold at the end.
func TestRows(t *testing.T) {
	const p = "in 2 regs 3 | r2 = r0 - r1 | r2 = r2 / 2 | out r2 r0"
	for _, x := range []struct {
		text string
		grid [][]int64
		want string
	}{
		{p, [][]int64{{1, 1}, {1, -1}}, "0 1; 1 1"},
		{p, [][]int64{{3, 1}, {1, -1}}, "1 1; 3 1"},
		{p, [][]int64{{2}, {-4}}, "3; 2"},
		{p, [][]int64{{}, {}}, "; "},
		{p, [][]int64{{0, 0, 0}, {0, 0, 0}}, "0 0 0; 0 0 0"},
		{"in 1 regs 1 | out r0", [][]int64{{}}, ""},
		{"in 1 regs 1 | out r0", [][]int64{{1, 2}}, "1 2"},
		{"in 1 regs 2 | out r1 r0 r1", [][]int64{{1, 2}}, "0 0; 1 2; 0 0"},
		{"in 1 regs 2 | r1 = r0 / 2 | out r1", [][]int64{{}}, ""},
		{"in 2 regs 2 | r0 = r1 | out r0 r1", [][]int64{{5, 6}, {7, 8}}, "7 8; 7 8"},
		{"in 2 regs 2 | r0 = -r1 | out r0 r1", [][]int64{{5, 6}, {7, -8}}, "-7 8; 7 -8"},
		{"in 2 regs 2 | r0 = r0 + r1 | out r0 r1", [][]int64{{5, 6}, {7, -8}}, "12 -2; 7 -8"},
		{"in 2 regs 2 | r1 = r0 - r1 | out r0 r1", [][]int64{{5, 6}, {7, -8}}, "5 6; -2 14"},
		{"in 1 regs 1 | r0 = r0 * -3 | out r0 r0", [][]int64{{5, 6, 0}}, "-15 -18 0; -15 -18 0"},
		{"in 1 regs 1 | r0 = r0 / -3 | out r0", [][]int64{{15, -6, 0}}, "-5 2 0"},
		{"in 1 regs 1 | r0 = r0 << 4 | out r0", [][]int64{{5, -6, 0}}, "80 -96 0"},
		{"in 1 regs 1 | r0 = r0 >> 4 | out r0", [][]int64{{80, -96, 0}}, "5 -6 0"},
	} {
		var grid [][]integer.Int
		for _, l := range x.grid {
			grid = append(grid, list(l...))
		}
		outs, k, e := exact.Rows(read(t, x.text), grid)
		if toldAll(outs) != x.want || k != 0 || e != api.OK {
			t.Errorf("Rows of %s over %v: %s, %d, %v", x.text, x.grid, toldAll(outs), k, e)
		}
		for _, l := range outs {
			if len(l) != len(grid[0]) {
				t.Errorf("Rows of %s over %v: a row of %d numbers", x.text, x.grid, len(l))
			}
		}
	}
}

// P10.2: an instruction that fails on some columns, on the first one, on the last one alone; the first one that fails on any is told.
func TestRowsFail(t *testing.T) {
	for _, x := range []struct {
		text string
		grid [][]int64
		k    int
	}{
		{"in 2 regs 3 | r2 = r0 - r1 | r2 = r2 / 2 | out r2 r0", [][]int64{{1, 0}, {0, 1}}, 1},
		{"in 1 regs 1 | r0 = r0 / 2 | out r0", [][]int64{{2, 3, 4}}, 0},
		{"in 1 regs 1 | r0 = r0 / 2 | out r0", [][]int64{{3, 2, 4}}, 0},
		{"in 1 regs 1 | r0 = r0 / 2 | out r0", [][]int64{{2, 4, 3}}, 0},
		{"in 1 regs 1 | r0 = r0 >> 1 | out r0", [][]int64{{2, 4, -3}}, 0},
		{"in 1 regs 1 | r0 = r0 >> 1 | r0 = r0 >> 1 | r0 = r0 >> 1 | out r0", [][]int64{{8, 4, 16}}, 2},
		{"in 1 regs 1 | r0 = r0 >> 1 | r0 = r0 >> 1 | r0 = r0 >> 1 | out r0", [][]int64{{4, 8, 2}}, 1},
		{"in 1 regs 1 | r0 = r0 >> 1 | r0 = r0 >> 1 | r0 = r0 >> 1 | out r0", [][]int64{{4, 2, 1}}, 0},
		{"in 1 regs 2 | r1 = r0 / 3 | r0 = -r0 | out r0", [][]int64{{9, 9, 8}}, 0},
		{"in 1 regs 2 | r1 = r0 / 3 | r1 = r0 | out r1", [][]int64{{9, 8, 9}}, 0},
		{"in 1 regs 2 | r1 = r0 | r1 = -r1 | r1 = r0 / 3 | out r1", [][]int64{{9, 8, 9}}, 2},
	} {
		var grid [][]integer.Int
		for _, l := range x.grid {
			grid = append(grid, list(l...))
		}
		p := read(t, x.text)
		outs, k, e := exact.Rows(p, grid)
		judged, f := exact.Judge(p, grid)
		w, g := exact.Widest(p, grid)
		steps := 0
		for range exact.Steps(p, grid) {
			steps++
		}
		if len(outs) != 0 || k != x.k || judged != x.k || steps != x.k || w.Sign() != 0 || e != api.ErrExact || f != api.ErrExact || g != api.ErrExact {
			t.Errorf("%s over %v: %s, %d, %d, %d, %s, %v, %v, %v", x.text, x.grid, toldAll(outs), k, judged, steps, one(w), e, f, g)
		}
	}
}

// P10.2, P10.3, P10.5
func TestRowsMany(t *testing.T) {
	m := maker(97)
	failed := 0
	for k, p := range some(3000) {
		grid := m.grid(p.Ins, k%6)
		compareRows(t, p, grid)
		if len(followed(p, grid).set) < len(p.Code) {
			failed++
		}
	}
	if failed < 300 || failed > 2700 {
		t.Errorf("%d of 3000 fail", failed)
	}
	compareRows(t, m.program(mostRegs, mostRegs, mostRegs, 300), m.grid(mostRegs, 3))
	compareRows(t, m.program(1, mostRegs, mostRegs, 100), m.grid(1, 40))
	compareRows(t, m.program(3, 5, 5, 40), m.grid(3, 200))
}

// P10.2: as many instructions as may be; the last one fails on one column alone.
func TestRowsLong(t *testing.T) {
	p := api.Prog{Ins: 2, Regs: 2, Code: times(mostCode, in(add, 0, 0, 1, 0)), Outs: []int{0}}
	grid := [][]*big.Int{bigs(1, -1, 3), bigs(1, 7, 9)}
	compareRows(t, p, grid)
	p.Code[mostCode-1] = in(shr, 0, 0, 0, 1)
	compareRows(t, p, grid)
	grid[0][1] = new(big.Int)
	compareRows(t, p, grid)
}

// P10.2: MaxCoeffs columns go, on all of which a division goes, or but for one; one column more does not.
func TestRowsColumns(t *testing.T) {
	p := example()
	grid := [][]*big.Int{make([]*big.Int, mostCoeffs), make([]*big.Int, mostCoeffs)}
	for j := range mostCoeffs {
		grid[0][j], grid[1][j] = big.NewInt(int64(3*j)), big.NewInt(int64(j))
	}
	compareRows(t, p, grid)
	for _, j := range []int{0, 1, mostCoeffs / 2, mostCoeffs - 2, mostCoeffs - 1} {
		was := grid[1][j]
		grid[1][j] = big.NewInt(int64(j) + 1)
		compareRows(t, p, grid)
		grid[1][j] = was
	}
	for i := range grid {
		grid[i] = append(grid[i], big.NewInt(2))
	}
	unfit(t, p, gridOf(grid))
	unfit(t, p, blank(2, 2*mostCoeffs))
	compareRows(t, plain(mostRegs, mostRegs, mostRegs), slices.Repeat([][]*big.Int{slices.Repeat(bigs(7), mostCoeffs)}, mostRegs))
}

// unfit asks that a grid is refused by all calls that ask it to fit.
func unfit(t *testing.T, p api.Prog, grid [][]integer.Int) {
	t.Helper()
	outs, k, a := exact.Rows(p, grid)
	judged, b := exact.Judge(p, grid)
	w, c := exact.Widest(p, grid)
	if len(outs) != 0 || k != 0 || judged != 0 || w.Sign() != 0 || a != api.ErrRange || b != api.ErrRange || c != api.ErrRange {
		t.Errorf("%s over %d rows: %d, %d, %d, %s, %v, %v, %v", show(p), len(grid), len(outs), k, judged, one(w), a, b, c)
	}
	for k, l := range exact.Steps(p, grid) {
		t.Errorf("Steps of %s over %d rows: %d, %s", show(p), len(grid), k, told(l))
	}
}

// P10.2, P10.3: grids that do not fit: without rows, of rows of unlike lengths, with one row fewer or more; a division that would fail is not told ahead of it.
func TestRowsRange(t *testing.T) {
	failing := api.Prog{Ins: 2, Regs: 9, Code: []api.Instr{in(div, 0, 0, 0, 2)}, Outs: []int{0}}
	for _, p := range append(some(40), plain(mostRegs, mostRegs, 1), example(), failing) {
		unfit(t, p, nil)
		unfit(t, p, [][]integer.Int{})
		for _, columns := range []int{0, 1, 3} {
			for _, n := range []int{p.Ins - 1, p.Ins + 1, 2 * p.Ins, 200} {
				unfit(t, p, slices.Repeat([][]integer.Int{slices.Repeat(list(1), columns)}, n))
			}
			for i := range p.Ins {
				if p.Ins == 1 {
					break
				}
				grid := blank(p.Ins, columns)
				for _, other := range []int{0, columns + 1, columns - 1, mostCoeffs, mostCoeffs + 1} {
					if other >= 0 && other != columns {
						grid[i] = make([]integer.Int, other)
						unfit(t, p, grid)
					}
				}
			}
		}
	}
	unfit(t, example(), [][]integer.Int{list(1), list(1, 2)})
	unfit(t, example(), [][]integer.Int{list(1, 2), list(1)})
	unfit(t, example(), [][]integer.Int{list(1, 2), nil})
}

// P10.2: rows of length 0, nil or not, fit; nothing fails over them.
func TestRowsWithoutColumns(t *testing.T) {
	if k, e := exact.Judge(plain(1, 1, 1), [][]integer.Int{{}}); k != 0 || e != api.OK {
		t.Errorf("Judge: %d, %v", k, e)
	}
	for _, p := range some(60) {
		for _, l := range [][]integer.Int{nil, {}, list(1, 2)[:0]} {
			grid := slices.Repeat([][]integer.Int{l}, p.Ins)
			outs, k, e := exact.Rows(p, grid)
			if len(outs) != len(p.Outs) || len(slices.Concat(outs...)) != 0 || k != 0 || e != api.OK {
				t.Errorf("Rows of %s over rows of length 0: %s, %d, %v", show(p), toldAll(outs), k, e)
			}
			steps := 0
			for k, l := range exact.Steps(p, grid) {
				if k != steps || len(l) != 0 {
					t.Errorf("Steps of %s over rows of length 0: %d, %s", show(p), k, told(l))
				}
				steps++
			}
			if steps != len(p.Code) {
				t.Errorf("Steps of %s over rows of length 0: %d", show(p), steps)
			}
		}
	}
}

// P10.2: the rows that instructions set, up to the first one that fails.
func TestSteps(t *testing.T) {
	for _, x := range []struct {
		text string
		grid [][]integer.Int
		want string
	}{
		{"in 2 regs 3 | r2 = r0 - r1 | r2 = r2 / 2 | out r2 r0", [][]integer.Int{list(1, 1), list(1, -1)}, "0: 0 2, 1: 0 1"},
		{"in 2 regs 3 | r2 = r0 - r1 | r2 = r2 / 2 | out r2 r0", [][]integer.Int{list(1, 0), list(0, 1)}, "0: 1 -1"},
		{"in 2 regs 3 | r2 = r0 - r1 | r2 = r2 / 2 | out r2 r0", [][]integer.Int{list(1, 1)}, ""},
		{"in 1 regs 1 | out r0", [][]integer.Int{list(1, 1)}, ""},
		{"in 1 regs 1 | r0 = r0 >> 2 | r0 = -r0 | out r0", [][]integer.Int{list(4, 8, 2)}, ""},
		{"in 1 regs 2 | r1 = r0 | r0 = r0 >> 2 | r1 = r1 - r0 | out r0", [][]integer.Int{list(4, -8)}, "0: 4 -8, 1: 1 -2, 2: 3 -6"},
	} {
		if got := toldSteps(exact.Steps(read(t, x.text), x.grid), told); got != x.want {
			t.Errorf("Steps of %s over %s: %s", x.text, toldAll(x.grid), got)
		}
	}
}

// P10.2, R6: left behind each row, and gone through again.
func TestStepsLeftEarly(t *testing.T) {
	m := maker(78)
	for _, p := range some(200) {
		grid := m.grid(p.Ins, 3)
		want := followed(p, grid).set
		steps := exact.Steps(p, gridOf(grid))
		for n := 1; n <= len(want); n++ {
			at := 0
			for k, l := range steps {
				if k != at || !sayAll(l, want[k]) {
					t.Fatalf("Steps of %s: %d, %s", show(p), k, told(l))
				}
				at++
				if at == n {
					break
				}
			}
			calls := 0
			steps(func(int, []integer.Int) bool { calls++; return calls < n })
			if at != n || calls != n {
				t.Errorf("Steps of %s, left behind %d: %d, %d", show(p), n, at, calls)
			}
		}
		all := 0
		for k, l := range steps {
			if k != all || !sayAll(l, want[k]) {
				t.Fatalf("Steps of %s, again: %d, %s", show(p), k, told(l))
			}
			all++
		}
		if all != len(want) {
			t.Errorf("Steps of %s, again: %d", show(p), all)
		}
	}
}

// R6: one iterator, gone through within itself.
func TestWithinItself(t *testing.T) {
	p := alone(in(add, 0, 0, 0, 0), in(mul, 0, 0, 0, 3), in(shr, 0, 0, 0, 1), in(div, 0, 0, 0, 4))
	steps, trace := exact.Steps(p, [][]integer.Int{list(1, 2)}), exact.Trace(p, list(5))
	got := ""
	for k, outer := range steps {
		for m, inner := range steps {
			got += told(outer) + " and " + told(inner) + ", "
			if m == k {
				break
			}
		}
	}
	for _, outer := range trace {
		got += one(outer) + " and " + toldSteps(trace, one) + "; "
	}
	if want := "2 4 and 2 4, 6 12 and 2 4, 6 12 and 6 12, 3 6 and 2 4, 3 6 and 6 12, 3 6 and 3 6, 10 and 0: 10, 1: 30, 2: 15; 30 and 0: 10, 1: 30, 2: 15; 15 and 0: 10, 1: 30, 2: 15; "; got != want {
		t.Errorf("%q", got)
	}
}
