package exact_test

import (
	"math/big"
	"slices"
	"testing"

	"swage/api"
	"swage/exact"
	"swage/integer"
)

// compareRun holds all that Run and Trace tell of a program and numbers against a run of another make.
func compareRun(t *testing.T, p api.Prog, ins []*big.Int) {
	t.Helper()
	want := ran(p, ins)
	outs, k, e := exact.Run(p, integers(ins))
	switch done := len(want.set); {
	case done < len(p.Code):
		if len(outs) != 0 || k != done || e != api.ErrExact {
			t.Errorf("Run of %s on %v: %s, %d, %v, though the instruction %d fails", show(p), ins, told(outs), k, e, done)
		}
	case !sayAll(outs, want.outs) || k != 0 || e != api.OK:
		t.Errorf("Run of %s on %v: %s, %d, %v", show(p), ins, told(outs), k, e)
	}
	at := 0
	for k, x := range exact.Trace(p, integers(ins)) {
		if k != at || k >= len(want.set) || !says(x, want.set[k]) {
			t.Fatalf("Trace of %s on %v: %d, %s", show(p), ins, k, one(x))
		}
		at++
	}
	if at != len(want.set) {
		t.Errorf("Trace of %s on %v: %d, not %d", show(p), ins, at, len(want.set))
	}
}

// P10.1: programs, numbers, and what the outs hold at the end.
func TestRun(t *testing.T) {
	for _, x := range []struct {
		text string
		in   []int64
		want string
	}{
		{"in 2 regs 3 | r2 = r0 - r1 | r2 = r2 / 2 | out r2 r0", []int64{7, 3}, "2 7"},
		{"in 2 regs 3 | r2 = r0 - r1 | r2 = r2 / 2 | out r2 r0", []int64{3, 7}, "-2 3"},
		{"in 2 regs 3 | r2 = r0 - r1 | r2 = r2 / 2 | out r2 r0", []int64{0, 0}, "0 0"},
		{"in 1 regs 1 | out r0", []int64{-9}, "-9"},
		{"in 1 regs 2 | out r1", []int64{-9}, "0"},
		{"in 1 regs 2 | out r1 r0 r1 r0 r0", []int64{5}, "0 5 0 5 5"},
		{"in 3 regs 4 | out r2 r3 r0 r2", []int64{5, 6, 7}, "7 0 5 7"},
		{"in 2 regs 2 | r0 = r1 | out r0 r1", []int64{5, 6}, "6 6"},
		{"in 2 regs 2 | r0 = -r1 | out r0 r1", []int64{5, 6}, "-6 6"},
		{"in 2 regs 2 | r0 = r0 + r1 | out r0 r1", []int64{5, 6}, "11 6"},
		{"in 2 regs 2 | r1 = r0 - r1 | out r0 r1", []int64{5, 6}, "5 -1"},
		{"in 2 regs 2 | r1 = r0 * -3 | out r0 r1", []int64{5, 6}, "5 -15"},
		{"in 2 regs 2 | r1 = r1 / -3 | out r0 r1", []int64{5, 6}, "5 -2"},
		{"in 2 regs 2 | r1 = r1 << 5 | out r0 r1", []int64{5, -6}, "5 -192"},
		{"in 2 regs 2 | r1 = r1 >> 5 | out r0 r1", []int64{5, -192}, "5 -6"},
		{"in 1 regs 2 | r0 = r0 + r0 | r0 = r0 + r0 | out r0", []int64{3}, "12"},
		{"in 1 regs 2 | r0 = r0 - r0 | out r0 r1", []int64{3}, "0 0"},
		{"in 1 regs 2 | r0 = r1 | out r0", []int64{3}, "0"},
		{"in 1 regs 2 | r1 = r1 / 7 | r1 = r1 >> 64 | out r1", []int64{3}, "0"},
		{"in 1 regs 3 | r1 = r0 | r1 = -r1 | r2 = r1 | r1 = r0 | out r2 r1 r2", []int64{3}, "-3 3 -3"},
		{"in 2 regs 3 | r2 = r0 | r0 = r1 | r1 = r2 | out r0 r1 r0 r0", []int64{3, 4}, "4 3 4 4"},
		{"in 1 regs 2 | r1 = r0 << 3 | r1 = r1 >> 2 | r1 = r1 * -3 | r1 = -r1 | out r1", []int64{5}, "30"},
		{"in 1 regs 1 | r0 = r0 << 64 | r0 = r0 >> 63 | out r0", []int64{-5}, "-10"},
		{"in 1 regs 1 | r0 = r0 * 512 | r0 = r0 / -512 | out r0", []int64{7}, "-7"},
	} {
		outs, k, e := exact.Run(read(t, x.text), list(x.in...))
		if told(outs) != x.want || k != 0 || e != api.OK {
			t.Errorf("Run of %s on %v: %s, %d, %v", x.text, x.in, told(outs), k, e)
		}
		compareRun(t, read(t, x.text), bigs(x.in...))
	}
}

// P10.1: divisions that go, and that leave a remainder: by numbers below 0, by one, of 0, of numbers of many limbs.
func TestRunDivisions(t *testing.T) {
	wide := new(big.Int).Mul(power(300), big.NewInt(15))
	for _, x := range []struct {
		op, c int
		a     *big.Int
		goes  bool
	}{
		{div, 2, big.NewInt(4), true}, {div, 2, big.NewInt(5), false}, {div, 2, big.NewInt(-4), true}, {div, 2, big.NewInt(-5), false}, {div, -2, big.NewInt(4), true}, {div, -2, big.NewInt(5), false}, {div, -2, big.NewInt(-4), true}, {div, -2, big.NewInt(-5), false},
		{div, 1, big.NewInt(5), true}, {div, -1, big.NewInt(5), true}, {div, 7, new(big.Int), true}, {div, -7, new(big.Int), true}, {div, 7, big.NewInt(1), false}, {div, 7, big.NewInt(6), false}, {div, 7, big.NewInt(-1), false}, {div, 7, big.NewInt(7), true}, {div, -7, big.NewInt(7), true}, {div, 7, big.NewInt(8), false},
		{div, mostConst, big.NewInt(mostConst), true}, {div, mostConst, big.NewInt(mostConst / 2), false}, {div, -mostConst, power(300), true}, {div, 3, power(300), false}, {div, 15, wide, true}, {div, -45, wide, false}, {div, 511, new(big.Int).Neg(wide), false},
		{shr, 1, big.NewInt(4), true}, {shr, 2, big.NewInt(4), true}, {shr, 3, big.NewInt(4), false}, {shr, 1, big.NewInt(5), false}, {shr, 1, big.NewInt(-5), false}, {shr, 1, big.NewInt(-6), true}, {shr, 2, big.NewInt(-6), false}, {shr, 64, new(big.Int), true},
		{shr, 64, power(64), true}, {shr, 64, power(63), false}, {shr, 64, new(big.Int).Neg(power(64)), true}, {shr, 63, power(63), true}, {shr, 63, power(62), false}, {shr, 32, power(32), true}, {shr, 32, power(31), false}, {shr, 64, wide, true}, {shr, 64, new(big.Int).Add(wide, big.NewInt(1)), false}, {shr, 64, new(big.Int).Add(wide, power(63)), false}, {shr, 64, new(big.Int).Sub(power(64), wide), true},
	} {
		p := alone(in(x.op, 1, 0, 0, x.c))
		outs, k, e := exact.Run(p, integers([]*big.Int{x.a}))
		_, judged := exact.Judge(p, gridOf([][]*big.Int{{x.a}}))
		want := api.ErrExact
		if x.goes {
			want = api.OK
		}
		if e != want || judged != want || k != 0 || (len(outs) == 2) != x.goes {
			t.Errorf("%v by operation %d, %d: %s, %d, %v, %v", x.a, x.op, x.c, told(outs), k, e, judged)
		}
		compareRun(t, p, []*big.Int{x.a})
		compareRun(t, alone(in(x.op, 0, 0, 0, x.c)), []*big.Int{x.a})
	}
}

// constants are those of an operation at which something turns.
func constants(op int) []int {
	switch op {
	case mul, div:
		return []int{-mostConst, -511, -2, -1, 1, 2, 3, 7, 511, mostConst}
	case shl, shr:
		return []int{1, 2, 31, 32, 33, 63, mostShift}
	}
	return []int{0}
}

// P10.1, P10.2: each operation with all constants at which something turns; it may ask what it sets, and what was never set.
func TestEach(t *testing.T) {
	grid := [][]*big.Int{bigs(0, 1, -2, 12, -512), bigs(5, -6, 0, 511*7, 7)}
	grid[0] = append(grid[0], power(64), new(big.Int).Neg(power(200)))
	grid[1] = append(grid[1], new(big.Int).Mul(power(99), big.NewInt(-21)), new(big.Int).Sub(power(65), big.NewInt(1)))
	for op := move; op <= shr; op++ {
		for _, c := range constants(op) {
			for to := range 4 {
				for asked := range 16 {
					i := in(op, to, asked%4, asked/4, c)
					if op != add && op != sub && i.B > 0 {
						continue
					}
					p := api.Prog{Ins: 2, Regs: 4, Code: []api.Instr{in(shl, 3, 0, 0, 9), i}, Outs: []int{0, 1, 2, 3}}
					for j := range grid[0] {
						compareRun(t, p, []*big.Int{grid[0][j], grid[1][j]})
						compareRows(t, p, [][]*big.Int{{grid[0][j]}, {grid[1][j]}})
					}
					compareRows(t, p, grid)
				}
			}
		}
	}
}

// P10.1: which instruction fails: the first one, one in the middle, the last one, the first of several, one that is not needed.
func TestRunFails(t *testing.T) {
	for _, x := range []struct {
		text string
		in   []int64
		k    int
	}{
		{"in 2 regs 3 | r2 = r0 - r1 | r2 = r2 / 2 | out r2 r0", []int64{7, 2}, 1},
		{"in 1 regs 1 | r0 = r0 / 2 | out r0", []int64{1}, 0},
		{"in 1 regs 1 | r0 = r0 >> 1 | out r0", []int64{-3}, 0},
		{"in 1 regs 2 | r1 = r0 / 3 | r1 = -r1 | r1 = r1 + r0 | out r1", []int64{4}, 0},
		{"in 1 regs 2 | r1 = -r0 | r1 = r1 / 3 | r1 = r1 + r0 | out r1", []int64{4}, 1},
		{"in 1 regs 2 | r1 = -r0 | r1 = r1 + r0 | r1 = r0 >> 3 | out r1", []int64{4}, 2},
		{"in 1 regs 2 | r1 = r0 >> 2 | r1 = r1 / 5 | r1 = r1 / 5 | r1 = r1 / 5 | out r1", []int64{100}, 3},
		{"in 1 regs 2 | r1 = r0 >> 3 | r1 = r0 / 3 | out r1", []int64{4}, 0},
		{"in 1 regs 2 | r1 = r0 / 3 | out r0", []int64{4}, 0},
		{"in 1 regs 2 | r1 = r0 | r1 = r0 / 3 | r1 = r0 | out r1", []int64{4}, 1},
		{"in 2 regs 2 | r0 = r1 / 2 | r0 = r1 | out r0", []int64{4, 5}, 0},
	} {
		outs, k, e := exact.Run(read(t, x.text), list(x.in...))
		if len(outs) != 0 || k != x.k || e != api.ErrExact {
			t.Errorf("Run of %s on %v: %s, %d, %v", x.text, x.in, told(outs), k, e)
		}
		compareRun(t, read(t, x.text), bigs(x.in...))
		var grid [][]*big.Int
		for _, n := range x.in {
			grid = append(grid, bigs(0, n, 2*n))
		}
		compareRows(t, read(t, x.text), grid)
	}
}

// P10.1
func TestRunMany(t *testing.T) {
	m := maker(31)
	failed := 0
	for _, p := range some(3000) {
		ins := m.numbers(p.Ins, m.factor())
		compareRun(t, p, ins)
		if len(ran(p, ins).set) < len(p.Code) {
			failed++
		}
	}
	if failed < 300 || failed > 2700 {
		t.Errorf("%d of 3000 runs fail", failed)
	}
	for range 20 {
		compareRun(t, m.program(mostRegs, mostRegs, mostRegs, 300), m.numbers(mostRegs, m.factor()))
		compareRun(t, m.program(1, mostRegs, mostRegs, 100), m.numbers(1, m.factor()))
	}
}

// P10.1: as many instructions as may be; the last one fails, or goes.
func TestRunLong(t *testing.T) {
	p := api.Prog{Ins: 2, Regs: 2, Code: times(mostCode, in(add, 0, 0, 1, 0)), Outs: []int{0}}
	compareRun(t, p, bigs(0, -3))
	p.Code[mostCode-1] = in(shr, 0, 0, 0, 1)
	for _, n := range []int64{0, 1, 2, 3} {
		compareRun(t, p, bigs(n, 1))
	}
}

// P10.1: no number is too wide: neither what is handed in nor what is set on the way.
func TestRunWide(t *testing.T) {
	const n = mostBits/mostShift + 100
	far := times(n, in(shl, 0, 0, 0, mostShift))
	back := alone(append(slices.Clone(far), times(n, in(shr, 0, 0, 0, mostShift))...)...)
	for _, p := range []api.Prog{alone(far...), back} {
		compareRun(t, p, bigs(-7))
		compareRows(t, p, [][]*big.Int{bigs(-7, 0, 1)})
	}
	huge := new(big.Int).Sub(power(3*mostBits), big.NewInt(1))
	for _, i := range []api.Instr{in(move, 1, 0, 0, 0), in(neg, 1, 0, 0, 0), in(add, 1, 0, 0, 0), in(mul, 1, 0, 0, -511), in(div, 1, 0, 0, 3), in(div, 1, 0, 0, 2), in(shl, 1, 0, 0, 64), in(shr, 1, 0, 0, 64)} {
		compareRun(t, alone(i), []*big.Int{huge})
		compareRows(t, alone(i), [][]*big.Int{{huge}})
	}
}

// P10.1: 0 in all its forms is a number as others are.
func TestRunZeros(t *testing.T) {
	for _, zero := range []integer.Int{{}, of(0), integer.Make(true, nil), integer.Make(true, []uint32{0, 0})} {
		outs, k, e := exact.Run(example(), []integer.Int{zero, of(6)})
		if told(outs) != "-3 0" || k != 0 || e != api.OK {
			t.Errorf("Run: %s, %d, %v", told(outs), k, e)
		}
	}
}

// P10.1: not as many numbers as inputs; a division that would fail is not told ahead of it.
func TestRunRange(t *testing.T) {
	failing := api.Prog{Ins: 2, Regs: 9, Code: []api.Instr{in(div, 0, 0, 0, 2)}, Outs: []int{0}}
	for _, p := range append(some(40), plain(mostRegs, mostRegs, 1), failing) {
		for _, n := range []int{0, p.Ins - 1, p.Ins + 1, 2 * p.Ins, p.Regs, 200} {
			if n == p.Ins {
				continue
			}
			numbers := slices.Repeat(list(1), n)
			if outs, k, e := exact.Run(p, numbers); len(outs) != 0 || k != 0 || e != api.ErrRange {
				t.Errorf("Run of %s on %d numbers: %s, %d, %v", show(p), n, told(outs), k, e)
			}
			for k, x := range exact.Trace(p, numbers) {
				t.Errorf("Trace of %s on %d numbers: %d, %s", show(p), n, k, one(x))
			}
		}
		if outs, k, e := exact.Run(p, nil); len(outs) != 0 || k != 0 || e != api.ErrRange {
			t.Errorf("Run of %s on nothing: %s, %d, %v", show(p), told(outs), k, e)
		}
		for k, x := range exact.Trace(p, nil) {
			t.Errorf("Trace of %s on nothing: %d, %s", show(p), k, one(x))
		}
	}
}

// P10.1: what instructions set, up to the first one that fails.
func TestTrace(t *testing.T) {
	for _, x := range []struct {
		text string
		in   []int64
		want string
	}{
		{"in 2 regs 3 | r2 = r0 - r1 | r2 = r2 / 2 | out r2 r0", []int64{7, 3}, "0: 4, 1: 2"},
		{"in 2 regs 3 | r2 = r0 - r1 | r2 = r2 / 2 | out r2 r0", []int64{7, 2}, "0: 5"},
		{"in 2 regs 3 | r2 = r0 - r1 | r2 = r2 / 2 | out r2 r0", []int64{7}, ""},
		{"in 1 regs 1 | out r0", []int64{7}, ""},
		{"in 1 regs 1 | r0 = r0 >> 2 | r0 = -r0 | out r0", []int64{7}, ""},
		{"in 1 regs 2 | r1 = r0 | r1 = r1 >> 1 | r0 = r0 / 4 | r1 = r0 | out r1", []int64{6}, "0: 6, 1: 3"},
		{"in 1 regs 2 | r1 = r1 - r0 | r1 = r1 * 3 | r1 = r1 << 1 | out r0", []int64{6}, "0: -6, 1: -18, 2: -36"},
	} {
		if got := toldSteps(exact.Trace(read(t, x.text), list(x.in...)), one); got != x.want {
			t.Errorf("Trace of %s on %v: %s", x.text, x.in, got)
		}
	}
}

// P10.1, R6: left behind each number, and gone through again.
func TestTraceLeftEarly(t *testing.T) {
	m := maker(77)
	for _, p := range some(200) {
		ins := m.numbers(p.Ins, m.factor())
		want := ran(p, ins).set
		trace := exact.Trace(p, integers(ins))
		for n := 1; n <= len(want); n++ {
			at := 0
			for k, x := range trace {
				if k != at || !says(x, want[k]) {
					t.Fatalf("Trace of %s: %d, %s", show(p), k, one(x))
				}
				at++
				if at == n {
					break
				}
			}
			calls := 0
			trace(func(int, integer.Int) bool { calls++; return calls < n })
			if at != n || calls != n {
				t.Errorf("Trace of %s, left behind %d: %d, %d", show(p), n, at, calls)
			}
		}
		all := 0
		for k, x := range trace {
			if k != all || !says(x, want[k]) {
				t.Fatalf("Trace of %s, again: %d, %s", show(p), k, one(x))
			}
			all++
		}
		if all != len(want) {
			t.Errorf("Trace of %s, again: %d", show(p), all)
		}
	}
}
