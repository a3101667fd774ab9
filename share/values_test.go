package share_test

import (
	"slices"
	"testing"

	"swage/api"
	"swage/share"
)

// holdValues tells what is wrong, unless these are the Values of a program.
func holdValues(t *testing.T, p api.Prog, want []int) {
	t.Helper()
	if l, e := share.Values(p); !slices.Equal(l, want) || e != api.OK {
		t.Errorf("Values of %s: %v, %v, not %v", show(p), l, e, want)
	}
}

// pairs are all that Twice tells of a program.
func pairs(p api.Prog) [][2]int {
	var l [][2]int
	for k, first := range share.Twice(p) {
		l = append(l, [2]int{k, first})
	}
	return l
}

// holdTwice tells what is wrong, unless Twice of a program tells these.
func holdTwice(t *testing.T, p api.Prog, want [][2]int) {
	t.Helper()
	if l := pairs(p); !slices.Equal(l, want) {
		t.Errorf("Twice of %s: %v, not %v", show(p), l, want)
	}
}

// P14.2, P14.3: the chapter's examples, and others written out.
func TestValuesAndTwice(t *testing.T) {
	for _, x := range []struct {
		text   string
		values []int
		twice  [][2]int
	}{
		{"in 2 regs 4 | r2 = r0 + r1 | r3 = r1 + r0 | r3 = r3 - r2 | out r3 r2", []int{3, 3, 4}, [][2]int{{1, 0}}},
		{"in 1 regs 3 | r1 = r0 | r2 = r1 * 3 | r0 = r0 * 3 | out r0 r2", []int{0, 2, 2}, [][2]int{{2, 1}}},
		{"in 1 regs 2 | r0 = r0 | r1 = r0 | r0 = r1 | out r1", []int{0, 0, 0}, nil},
		{"in 1 regs 3 | r1 = r2 + r0 | r1 = r1 | out r1", []int{2, 2}, nil},
		{"in 1 regs 1 | out r0", nil, nil},
		{"in 3 regs 3 | r0 = -r0 | r1 = r2 | r2 = -r1 | r0 = r0 | out r0", []int{4, 2, 5, 4}, nil},
		{"in 3 regs 5 | r0 = r4 | r1 = r3 | r2 = r2 | out r0", []int{3, 3, 2}, nil},
		{"in 1 regs 128 | r1 = -r126 | r0 = -r127 | r1 = -r1 | r1 = -r0 | out r0", []int{2, 2, 3, 3}, [][2]int{{1, 0}, {3, 2}}},
		{"in 128 regs 128 | r0 = r127 | r1 = -r0 | r2 = -r127 | out r0", []int{127, 129, 129}, [][2]int{{2, 1}}},
		{"in 2 regs 3 | r2 = r0 - r1 | r2 = r1 - r0 | r2 = r0 - r1 | out r2", []int{3, 4, 3}, [][2]int{{2, 0}}},
		{"in 2 regs 3 | r2 = r1 + r0 | r2 = r0 + r1 | r2 = r1 + r0 | out r2", []int{3, 3, 3}, [][2]int{{1, 0}, {2, 0}}},
		{"in 1 regs 2 | r1 = r0 * 3 | r1 = r0 * -3 | r1 = r0 / 3 | r1 = r0 << 3 | r1 = r0 >> 3 | r1 = r0 * 3 | out r1", []int{2, 3, 4, 5, 6, 2}, [][2]int{{5, 0}}},
		{"in 1 regs 3 | r1 = r0 * 3 | r0 = r0 * 5 | r1 = r0 * 3 | r2 = r1 | r1 = r0 * 3 | out r1", []int{2, 3, 4, 4, 4}, [][2]int{{4, 2}}},
		{"in 1 regs 2 | r1 = r0 + r1 | r1 = r0 + r1 | r1 = r0 + r1 | out r1", []int{2, 3, 4}, nil},
		{"in 1 regs 2 | r1 = r0 >> 1 | r1 = r0 >> 1 | r0 = r1 | r1 = r0 >> 1 | out r1", []int{2, 2, 2, 3}, [][2]int{{1, 0}}},
	} {
		p := read(t, x.text)
		holdValues(t, p, x.values)
		holdTwice(t, p, x.twice)
	}
}

// P14.2, P14.3: each sort of instruction, once and twice with the same key, the register set anew between them; OpMoves are never told twice.
func TestEachSortTwice(t *testing.T) {
	for op := move; op <= shr; op++ {
		for _, c := range constants(op) {
			i := in(op, 2, 1, 0, c)
			want, twice := []int{3, 3, 4, 3}, [][2]int{{1, 0}, {3, 0}}
			if op == move {
				want, twice = []int{1, 1, 3, 1}, nil
			}
			p := api.Prog{Ins: 2, Regs: 3, Code: []api.Instr{i, i, in(sub, 2, 0, 1, 0), i}, Outs: []int{2}}
			holdValues(t, p, want)
			holdTwice(t, p, twice)
			p.Code = p.Code[:1]
			holdValues(t, p, want[:1])
			holdTwice(t, p, nil)
		}
	}
}

// P14.2: no two constants that an operation may have make one key.
func TestConstantsApart(t *testing.T) {
	for op, l := range map[int][2]int{mul: {-mostConst, mostConst}, div: {-mostConst, mostConst}, shl: {1, mostShift}, shr: {1, mostShift}} {
		p := api.Prog{Ins: 1, Regs: 2, Outs: []int{1}}
		var want []int
		for c := l[0]; c <= l[1]; c++ {
			if c != 0 {
				p.Code = append(p.Code, in(op, 1, 0, 0, c))
				want = append(want, 2+len(want))
			}
		}
		holdValues(t, p, want)
		holdTwice(t, p, nil)
		once := len(p.Code)
		p.Code = append(p.Code, p.Code...)
		var twice [][2]int
		for k := range once {
			twice = append(twice, [2]int{once + k, k})
		}
		holdValues(t, p, append(want, want...))
		holdTwice(t, p, twice)
	}
}

// P14.2: of all sums and differences of as many inputs as may be each has a value of its own, but that sums may be turned round.
func TestPairsApart(t *testing.T) {
	for _, op := range []int{add, sub} {
		p := api.Prog{Ins: mostRegs - 1, Regs: mostRegs, Outs: []int{0}}
		var want []int
		var twice [][2]int
		seen := map[[2]int]int{}
		for a := range mostRegs - 1 {
			for b := range mostRegs - 1 {
				pair := [2]int{a, b}
				if op == add {
					pair = [2]int{min(a, b), max(a, b)}
				}
				if first, again := seen[pair]; again {
					twice = append(twice, [2]int{len(p.Code), first})
					want = append(want, want[first])
				} else {
					seen[pair] = len(p.Code)
					want = append(want, mostRegs-1+len(seen))
				}
				p.Code = append(p.Code, in(op, mostRegs-1, a, b, 0))
			}
		}
		holdValues(t, p, want)
		holdTwice(t, p, twice)
	}
}

// P14.2, P14.3: of programs drawn at random both tell what the chapter's words say.
func TestValuesMany(t *testing.T) {
	told := 0
	for _, p := range some(8000) {
		twice := twiceOf(p)
		told += len(twice)
		holdValues(t, p, valuesOf(p))
		holdTwice(t, p, twice)
	}
	if told < 10000 {
		t.Errorf("%d came up twice", told)
	}
}

// P14.2, P14.3: as many instructions as may be: each with a key of its own, and two keys in turn.
func TestValuesLong(t *testing.T) {
	tower, turns := alone(times(mostCode, in(mul, 0, 0, 0, 3))...), alone(slices.Repeat([]api.Instr{in(neg, 1, 0, 0, 0), in(shr, 1, 0, 0, 1)}, mostCode/2)...)
	var rising, swapping []int
	var twice [][2]int
	for k := range mostCode {
		rising = append(rising, 2+k)
		swapping = append(swapping, 2+k%2)
		if k > 1 {
			twice = append(twice, [2]int{k, k % 2})
		}
	}
	holdValues(t, tower, rising)
	holdTwice(t, tower, nil)
	holdValues(t, turns, swapping)
	holdTwice(t, turns, twice)
}

// P14.2, P14.3, R2: ErrProg of programs that may not be, and nothing beside it; nothing is told twice.
func TestValuesOfNone(t *testing.T) {
	for _, p := range wrong() {
		if l, e := share.Values(p); e != api.ErrProg || len(l) != 0 {
			t.Errorf("Values of %s: %v, %v", show(p), l, e)
		}
		holdTwice(t, p, nil)
	}
}

// R6: Twice may be left anywhere, also within itself, and tells all when it is gone through again.
func TestTwiceLeftEarly(t *testing.T) {
	left := 0
	for _, p := range some(600) {
		want := twiceOf(p)
		told := share.Twice(p)
		for most := range len(want) + 1 {
			var l [][2]int
			for k, first := range told {
				if len(l) == most {
					left++
					break
				}
				l = append(l, [2]int{k, first})
			}
			if !slices.Equal(l, want[:most]) {
				t.Fatalf("Twice of %s, left early: %v, not %v", show(p), l, want[:most])
			}
		}
		inner := 0
		for range told {
			for range told {
				inner++
			}
		}
		if inner != len(want)*len(want) {
			t.Fatalf("Twice of %s within itself: %d", show(p), inner)
		}
	}
	if left < 500 {
		t.Errorf("left %d times", left)
	}
}

// R3, R6: Twice tells of the program as it was handed in, whatever is written into its lists later.
func TestTwiceKeepsNothing(t *testing.T) {
	for _, x := range some(400) {
		want := twiceOf(x)
		p := roomy(x)
		told := share.Twice(p)
		clear(p.Code[:cap(p.Code)])
		clear(p.Outs[:cap(p.Outs)])
		for range 2 {
			var l [][2]int
			for k, first := range told {
				l = append(l, [2]int{k, first})
			}
			if !slices.Equal(l, want) {
				t.Fatalf("Twice of %s: %v, not %v", show(x), l, want)
			}
		}
	}
}
