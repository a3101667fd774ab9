package share_test

import (
	"slices"
	"testing"

	"swage/api"
	"swage/prog"
	"swage/share"
)

// passed is what the pass makes of a program, which must be one.
func passed(t *testing.T, p api.Prog) api.Prog {
	t.Helper()
	q, e := share.Pass(p)
	if e != api.OK {
		t.Fatalf("Pass of %s: %v", show(p), e)
	}
	return q
}

// holdPasses tells what is wrong, unless the pass makes of each first program the second one.
func holdPasses(t *testing.T, l [][2]string) {
	t.Helper()
	for _, x := range l {
		p, want := read(t, x[0]), read(t, x[1])
		if q := passed(t, p); !alike(q, want) {
			t.Errorf("Pass of %s: %s, not %s", x[0], show(q), x[1])
		}
	}
}

// P14.1: the chapter's examples.
func TestPass(t *testing.T) {
	holdPasses(t, [][2]string{
		{"in 2 regs 4 | r2 = r0 + r1 | r3 = r1 + r0 | r3 = r3 - r2 | out r3 r2", "in 2 regs 4 | r2 = r0 + r1 | r3 = r2 | r3 = r2 - r2 | out r3 r2"},
		{"in 1 regs 3 | r1 = r0 | r2 = r1 * 3 | r0 = r0 * 3 | out r0 r2", "in 1 regs 3 | r1 = r0 | r2 = r0 * 3 | r0 = r2 | out r0 r0"},
		{"in 1 regs 2 | r0 = r0 | r1 = r0 | r0 = r1 | out r1", "in 1 regs 2 | r1 = r0 | out r0"},
		{"in 1 regs 3 | r1 = r2 + r0 | r1 = r1 | out r1", "in 1 regs 3 | r1 = r1 + r0 | out r1"},
	})
}

// P14.1: no instruction: Ins and Regs stay, and outs are the inputs, or the first register that is none.
func TestPassOfNoInstruction(t *testing.T) {
	holdPasses(t, [][2]string{
		{"in 1 regs 1 | out r0", "in 1 regs 1 | out r0"},
		{"in 3 regs 3 | out r2 r1 r2", "in 3 regs 3 | out r2 r1 r2"},
		{"in 2 regs 5 | out r4 r3 r2 r1 r0 r4", "in 2 regs 5 | out r2 r2 r2 r1 r0 r2"},
		{"in 1 regs 128 | out r127 r0 r1", "in 1 regs 128 | out r1 r0 r1"},
		{"in 127 regs 128 | out r127 r126", "in 127 regs 128 | out r127 r126"},
	})
}

// P14.1: each sort of instruction, twice with the same key: onto another register it becomes a copy, onto the same one it is left out.
func TestPassOfEachSortTwice(t *testing.T) {
	for _, s := range []string{"-r0", "r0 + r1", "r0 - r1", "r0 + r0", "r0 - r0", "r0 * 3", "r0 * -512", "r0 * 512", "r0 * 1", "r0 / 3", "r0 / -512", "r0 / 1", "r0 << 1", "r0 << 64", "r0 >> 1", "r0 >> 64"} {
		holdPasses(t, [][2]string{
			{"in 2 regs 5 | r3 = " + s + " | out r3", "in 2 regs 5 | r3 = " + s + " | out r3"},
			{"in 2 regs 5 | r3 = " + s + " | r4 = " + s + " | out r3 r4", "in 2 regs 5 | r3 = " + s + " | r4 = r3 | out r3 r3"},
			{"in 2 regs 5 | r4 = " + s + " | r3 = " + s + " | out r3 r4", "in 2 regs 5 | r4 = " + s + " | r3 = r4 | out r3 r3"},
			{"in 2 regs 5 | r3 = " + s + " | r3 = " + s + " | out r3", "in 2 regs 5 | r3 = " + s + " | out r3"},
			{"in 2 regs 5 | r3 = " + s + " | r1 = " + s + " | out r3 r1", "in 2 regs 5 | r3 = " + s + " | r1 = r3 | out r1 r1"},
		})
	}
	holdPasses(t, [][2]string{
		{"in 2 regs 5 | r3 = r0 | out r3", "in 2 regs 5 | r3 = r0 | out r0"},
		{"in 2 regs 5 | r3 = r0 | r4 = r0 | out r3 r4", "in 2 regs 5 | r3 = r0 | r4 = r0 | out r0 r0"},
		{"in 2 regs 5 | r3 = r0 | r3 = r0 | out r3", "in 2 regs 5 | r3 = r0 | out r0"},
	})
}

// P14.1: sums are the same, whichever register stands first; differences are not.
func TestPassTurnedRound(t *testing.T) {
	holdPasses(t, [][2]string{
		{"in 2 regs 4 | r2 = r0 + r1 | r3 = r1 + r0 | out r2 r3", "in 2 regs 4 | r2 = r0 + r1 | r3 = r2 | out r2 r2"},
		{"in 2 regs 4 | r2 = r1 + r0 | r3 = r0 + r1 | out r2 r3", "in 2 regs 4 | r2 = r1 + r0 | r3 = r2 | out r2 r2"},
		{"in 2 regs 4 | r2 = r0 - r1 | r3 = r1 - r0 | out r2 r3", "in 2 regs 4 | r2 = r0 - r1 | r3 = r1 - r0 | out r2 r3"},
		{"in 2 regs 4 | r2 = r1 - r0 | r3 = r0 - r1 | out r2 r3", "in 2 regs 4 | r2 = r1 - r0 | r3 = r0 - r1 | out r2 r3"},
		{"in 2 regs 4 | r2 = r0 - r0 | r3 = r1 - r1 | out r2 r3", "in 2 regs 4 | r2 = r0 - r0 | r3 = r1 - r1 | out r2 r3"},
		{"in 2 regs 4 | r2 = r0 + r1 | r3 = r0 - r1 | out r2 r3", "in 2 regs 4 | r2 = r0 + r1 | r3 = r0 - r1 | out r2 r3"},
		{"in 2 regs 4 | r3 = r2 + r0 | r1 = r0 + r2 | out r3", "in 2 regs 4 | r3 = r2 + r0 | r1 = r3 | out r1"},
		{"in 3 regs 5 | r3 = r0 + r2 | r4 = r1 + r1 | out r3 r4", "in 3 regs 5 | r3 = r0 + r2 | r4 = r1 + r1 | out r3 r4"},
	})
}

// P14.1: another operation, another constant, and other registers are another key; B is none where it is not asked.
func TestPassOtherKeys(t *testing.T) {
	for _, s := range []string{
		"in 1 regs 3 | r1 = r0 * 3 | r2 = r0 * -3 | out r1 r2",
		"in 1 regs 3 | r1 = r0 * 3 | r2 = r0 / 3 | out r1 r2",
		"in 1 regs 3 | r1 = r0 * 2 | r2 = r0 << 1 | out r1 r2",
		"in 1 regs 3 | r1 = r0 * 2 | r2 = r0 << 2 | out r1 r2",
		"in 1 regs 3 | r1 = r0 + r0 | r2 = r0 << 1 | out r1 r2",
		"in 1 regs 3 | r1 = r0 * 1 | r2 = r0 / 1 | out r1 r2",
		"in 1 regs 3 | r1 = r0 * -1 | r2 = -r0 | out r1 r2",
		"in 1 regs 3 | r1 = r0 / 511 | r2 = r0 / 512 | out r1 r2",
		"in 1 regs 3 | r1 = r0 << 63 | r2 = r0 << 64 | out r1 r2",
		"in 1 regs 3 | r1 = r0 >> 1 | r2 = r0 << 1 | out r1 r2",
		"in 1 regs 3 | r1 = r0 >> 2 | r2 = r0 >> 1 | out r1 r2",
		"in 2 regs 4 | r2 = -r0 | r3 = -r1 | out r2 r3",
		"in 3 regs 5 | r3 = r0 + r1 | r4 = r0 + r2 | out r3 r4",
		"in 3 regs 5 | r3 = r0 - r2 | r4 = r1 - r2 | out r3 r4",
		"in 3 regs 5 | r3 = r0 - r0 | r4 = r0 - r1 | out r3 r4",
		"in 1 regs 2 | r0 = r0 * 3 | r0 = r0 * 3 | r1 = -r0 | r1 = -r1 | out r0 r1",
		"in 1 regs 2 | r1 = r0 * 1 | r0 = r0 * 3 | out r0 r1",
	} {
		holdPasses(t, [][2]string{{s, s}})
	}
	holdPasses(t, [][2]string{ // r0 is set anew, and is what B says where it is not asked
		{"in 2 regs 4 | r2 = r1 * 3 | r0 = -r0 | r3 = r1 * 3 | out r3", "in 2 regs 4 | r2 = r1 * 3 | r0 = -r0 | r3 = r2 | out r2"},
		{"in 2 regs 4 | r0 = r1 | r2 = -r0 | r3 = -r1 | out r3", "in 2 regs 4 | r0 = r1 | r2 = -r0 | r3 = r2 | out r2"},
	})
}

// P14.1: copies are asked where they came from, copies of copies too; a register that is copied to itself, or to where its value stands, is left out.
func TestPassCopies(t *testing.T) {
	holdPasses(t, [][2]string{
		{"in 1 regs 4 | r1 = r0 | r2 = r1 | r3 = r2 | out r3 r2 r1", "in 1 regs 4 | r1 = r0 | r2 = r0 | r3 = r0 | out r0 r0 r0"},
		{"in 1 regs 4 | r3 = r0 | r2 = r3 | r1 = r2 | r3 = -r3 | r0 = -r1 | out r2 r0", "in 1 regs 4 | r3 = r0 | r2 = r0 | r1 = r0 | r3 = -r0 | r0 = r3 | out r1 r0"},
		{"in 2 regs 2 | r0 = r0 | r1 = r1 | r0 = r0 | out r0 r1", "in 2 regs 2 | out r0 r1"},
		{"in 2 regs 3 | r2 = r0 | r0 = r1 | r1 = r2 | r2 = r0 - r1 | out r0 r1 r2", "in 2 regs 3 | r2 = r0 | r0 = r1 | r1 = r2 | r2 = r0 - r1 | out r0 r1 r2"},
		{"in 2 regs 3 | r2 = r1 | r1 = r0 | r0 = r2 | r1 = r1 | out r0 r1 r2", "in 2 regs 3 | r2 = r1 | r1 = r0 | r0 = r2 | out r0 r1 r0"},
		{"in 2 regs 4 | r2 = r1 | r3 = r2 + r0 | r3 = r0 + r1 | out r3", "in 2 regs 4 | r2 = r1 | r3 = r1 + r0 | out r3"},
		{"in 2 regs 4 | r2 = r1 | r3 = r1 | r2 = r2 - r3 | out r3 r2", "in 2 regs 4 | r2 = r1 | r3 = r1 | r2 = r1 - r1 | out r1 r2"},
		{"in 2 regs 3 | r2 = r0 + r1 | r0 = r2 | r1 = r2 | r2 = r0 - r1 | out r1", "in 2 regs 3 | r2 = r0 + r1 | r0 = r2 | r1 = r0 | r2 = r0 - r0 | out r0"},
	})
}

// P14.1: all registers that no instruction set hold one value, which is no input's.
func TestPassOfUnset(t *testing.T) {
	holdPasses(t, [][2]string{
		{"in 1 regs 2 | r0 = r1 | out r0 r1", "in 1 regs 2 | r0 = r1 | out r0 r0"},
		{"in 1 regs 3 | r1 = r2 | r2 = r1 | out r2", "in 1 regs 3 | out r1"},
		{"in 1 regs 4 | r1 = -r0 | r0 = r3 + r2 | out r3", "in 1 regs 4 | r1 = -r0 | r0 = r2 + r2 | out r2"},
		{"in 1 regs 4 | r0 = -r1 | r1 = -r2 | r2 = -r3 | out r3", "in 1 regs 4 | r0 = -r1 | r1 = r0 | r2 = r0 | out r3"},
		{"in 1 regs 3 | r0 = r2 | r1 = r0 - r2 | r2 = r2 - r0 | out r2 r0", "in 1 regs 3 | r0 = r1 | r1 = r0 - r0 | r2 = r1 | out r1 r0"},
		{"in 1 regs 128 | r1 = r0 * 3 | r2 = r0 + r127 | out r126", "in 1 regs 128 | r1 = r0 * 3 | r2 = r0 + r2 | out r3"},
		{"in 2 regs 2 | r1 = r0 - r1 | out r1", "in 2 regs 2 | r1 = r0 - r1 | out r1"},
		{"in 1 regs 3 | r1 = r1 * 3 | r2 = r2 * 3 | r0 = r0 * 3 | out r2 r0", "in 1 regs 3 | r1 = r1 * 3 | r2 = r1 | r0 = r0 * 3 | out r1 r0"},
	})
}

// P14.1: a register is set anew between two instructions with the same key: what was reckoned is held elsewhere, or nowhere any more, or what is asked is held by another register.
func TestPassSetAnew(t *testing.T) {
	holdPasses(t, [][2]string{
		{"in 1 regs 4 | r1 = r0 * 3 | r2 = r1 | r1 = -r0 | r3 = r0 * 3 | out r3 r1", "in 1 regs 4 | r1 = r0 * 3 | r2 = r1 | r1 = -r0 | r3 = r2 | out r2 r1"},
		{"in 1 regs 3 | r1 = r0 * 3 | r1 = -r0 | r2 = r0 * 3 | out r2 r1", "in 1 regs 3 | r1 = r0 * 3 | r1 = -r0 | r2 = r0 * 3 | out r2 r1"},
		{"in 1 regs 3 | r1 = r0 * 3 | r1 = -r0 | r1 = r0 * 3 | r2 = -r0 | r2 = r0 * 3 | out r2", "in 1 regs 3 | r1 = r0 * 3 | r1 = -r0 | r1 = r0 * 3 | r2 = -r0 | r2 = r1 | out r1"},
		{"in 1 regs 3 | r1 = r0 * 3 | r0 = -r0 | r2 = r0 * 3 | out r2 r1", "in 1 regs 3 | r1 = r0 * 3 | r0 = -r0 | r2 = r0 * 3 | out r2 r1"},
		{"in 1 regs 4 | r1 = r0 | r2 = r0 * 3 | r0 = -r0 | r3 = r1 * 3 | out r3 r0", "in 1 regs 4 | r1 = r0 | r2 = r0 * 3 | r0 = -r0 | r3 = r2 | out r2 r0"},
		{"in 1 regs 4 | r1 = r0 | r2 = r0 * 3 | r0 = -r0 | r2 = -r0 | r3 = r1 * 3 | out r3 r0", "in 1 regs 4 | r1 = r0 | r2 = r0 * 3 | r0 = -r0 | r2 = -r0 | r3 = r1 * 3 | out r3 r0"},
		{"in 1 regs 2 | r1 = -r0 | r0 = r0 * 3 | r0 = -r0 | r1 = -r1 | out r1", "in 1 regs 2 | r1 = -r0 | r0 = r0 * 3 | r0 = -r0 | r1 = -r1 | out r1"},
		{"in 1 regs 3 | r2 = r0 << 1 | r1 = r2 | r2 = -r0 | r2 = r0 << 1 | out r2", "in 1 regs 3 | r2 = r0 << 1 | r1 = r2 | r2 = -r0 | r2 = r1 | out r1"},
		{"in 2 regs 4 | r3 = r0 + r1 | r2 = r0 + r1 | r3 = r1 + r0 | r1 = r3 - r2 | out r3", "in 2 regs 4 | r3 = r0 + r1 | r2 = r3 | r1 = r2 - r2 | out r2"},
		{"in 1 regs 2 | r1 = r0 + r1 | r1 = r0 + r1 | out r1", "in 1 regs 2 | r1 = r0 + r1 | r1 = r0 + r1 | out r1"},
		{"in 1 regs 2 | r0 = r0 * 3 | r0 = r0 * 3 | out r0", "in 1 regs 2 | r0 = r0 * 3 | r0 = r0 * 3 | out r0"},
		{"in 1 regs 1 | r0 = r0 - r0 | r0 = r0 - r0 | out r0", "in 1 regs 1 | r0 = r0 - r0 | r0 = r0 - r0 | out r0"},
	})
}

// P14.1: outs are told by the first register that holds what they answer at the end, each for itself.
func TestPassOuts(t *testing.T) {
	holdPasses(t, [][2]string{
		{"in 2 regs 4 | r3 = r1 | r2 = r0 | out r3 r2 r1 r0 r3", "in 2 regs 4 | r3 = r1 | r2 = r0 | out r1 r0 r1 r0 r1"},
		{"in 2 regs 4 | r3 = r1 | r1 = -r0 | out r3 r2 r1", "in 2 regs 4 | r3 = r1 | r1 = -r0 | out r3 r2 r1"},
		{"in 2 regs 4 | r3 = -r1 | r2 = -r1 | r0 = r2 | out r3 r2 r1", "in 2 regs 4 | r3 = -r1 | r2 = r3 | r0 = r2 | out r0 r0 r1"},
		{"in 1 regs 3 | r2 = -r0 | r0 = r2 | out r2 r1 r0", "in 1 regs 3 | r2 = -r0 | r0 = r2 | out r0 r1 r0"},
	})
}

// P14.1, R2: ErrProg of programs that may not be, and nothing beside it.
func TestPassOfNone(t *testing.T) {
	for _, p := range wrong() {
		if q, e := share.Pass(p); e != api.ErrProg || !alike(q, api.Prog{}) {
			t.Errorf("Pass of %s: %s, %v", show(p), show(q), e)
		}
	}
}

// P14.1: what the pass makes of programs drawn at random is what its words say.
func TestPassMany(t *testing.T) {
	var n tally
	for _, p := range some(8000) {
		want := passOf(p, &n)
		if q := passed(t, p); !alike(q, want) {
			t.Fatalf("Pass of %s: %s, not %s", show(p), show(q), show(want))
		}
	}
	if n.out < 10000 || n.copied < 10000 || n.renamed < 10000 || n.kept < 10000 || n.lost < 1000 || n.outs < 1000 {
		t.Errorf("%+v", n)
	}
}

// small are all instructions on two registers, with one constant each.
func small() []api.Instr {
	var l []api.Instr
	for op := move; op <= shr; op++ {
		for _, regs := range [][2]int{{0, 0}, {0, 1}, {1, 0}, {1, 1}} {
			c := map[int]int{mul: 2, div: 2, shl: 1, shr: 1}[op]
			l = append(l, in(op, regs[0], regs[1], 0, c))
			if asksBoth(op) {
				l = append(l, in(op, regs[0], regs[1], 1, c))
			}
		}
	}
	return l
}

// P14.1, P14.2, P14.3: every three instructions of small, where one register is an input, and where both are.
func TestTriples(t *testing.T) {
	l := small()
	var n tally
	for _, a := range l {
		for _, b := range l {
			for _, c := range l {
				for _, ins := range []int{1, 2} {
					p := alone(a, b, c)
					p.Ins = ins
					if q, want := passed(t, p), passOf(p, &n); !alike(q, want) {
						t.Fatalf("Pass of %s: %s, not %s", show(p), show(q), show(want))
					}
					holdValues(t, p, valuesOf(p))
					holdTwice(t, p, twiceOf(p))
				}
			}
		}
	}
}

// P14.1: as many instructions as may be, of which none stays, or one, or all.
func TestPassLong(t *testing.T) {
	three, five, tower, copied := in(mul, 1, 0, 0, 3), in(mul, 1, 0, 0, 5), in(mul, 0, 0, 0, 3), in(move, 1, 0, 0, 0)
	swap := slices.Repeat([]api.Instr{three, five}, mostCode/2)
	climb := slices.Repeat([]api.Instr{three, in(move, 0, 1, 0, 0)}, mostCode/2)
	for _, x := range []struct {
		code, want []api.Instr
		outs       []int
	}{
		{times(mostCode, three), times(1, three), []int{0, 1}},
		{times(mostCode, tower), times(mostCode, tower), []int{0, 1}},
		{swap, swap, []int{0, 1}},
		{climb, climb, []int{0, 0}},
		{times(mostCode, in(move, 0, 0, 0, 0)), nil, []int{0, 1}},
		{times(mostCode, copied), times(1, copied), []int{0, 0}},
	} {
		p, want := alone(x.code...), api.Prog{Ins: 1, Regs: 2, Code: x.want, Outs: x.outs}
		if q := passed(t, p); !alike(q, want) {
			t.Errorf("Pass of %s: %s, not %s", show(p), show(q), show(want))
		}
	}
}

// P14.1: as many registers as may be: all copies of the last one, and all set to what one of them reckoned.
func TestPassWide(t *testing.T) {
	p := api.Prog{Ins: mostRegs, Regs: mostRegs}
	want := api.Prog{Ins: mostRegs, Regs: mostRegs}
	for r := range mostRegs {
		p.Outs = append(p.Outs, mostRegs-1-r)
		want.Outs = append(want.Outs, 0)
		if r == 0 {
			p.Code = append(p.Code, in(move, 0, 127, 0, 0))
			want.Code = append(want.Code, in(move, 0, 127, 0, 0))
		} else if r < 127 {
			p.Code = append(p.Code, in(move, r, r-1, 0, 0))
			want.Code = append(want.Code, in(move, r, 0, 0, 0))
		}
	}
	if q := passed(t, p); !alike(q, want) {
		t.Errorf("Pass of %s: %s, not %s", show(p), show(q), show(want))
	}
	p.Ins, p.Code = 2, []api.Instr{in(sub, 127, 0, 1, 0)}
	want.Ins, want.Code, want.Outs = 2, []api.Instr{in(sub, 127, 0, 1, 0)}, []int{2}
	for r := 126; r >= 2; r-- {
		p.Code = append(p.Code, in(sub, r, 0, 1, 0))
		want.Code = append(want.Code, in(move, r, r+1, 0, 0))
	}
	p.Outs = []int{127}
	if q := passed(t, p); !alike(q, want) {
		t.Errorf("Pass of %s: %s, not %s", show(p), show(q), show(want))
	}
}

// P14.4, P14.5: what the pass makes may be, has no more instructions, and no more of any sort but OpMove; the pass of it is it again; no key comes up in it while its value is held anywhere.
func TestNoMore(t *testing.T) {
	again := 0
	for _, p := range some(6000) {
		q := passed(t, p)
		if k, e := prog.Check(q); k != 0 || e != api.OK {
			t.Fatalf("Pass of %s: %s, which may not be: %d, %v", show(p), show(q), k, e)
		}
		if q.Ins != p.Ins || q.Regs != p.Regs || len(q.Outs) != len(p.Outs) || len(q.Code) > len(p.Code) {
			t.Errorf("Pass of %s: %s", show(p), show(q))
		}
		was, now := sorts(p), sorts(q)
		for op := neg; op <= shr; op++ {
			if now[op] > was[op] {
				t.Errorf("Pass of %s: %s has more of the sort %d", show(p), show(q), op)
			}
		}
		counted, _ := prog.Count(p)
		recounted, _ := prog.Count(q)
		if recounted.Adds > counted.Adds || recounted.Muls > counted.Muls || recounted.Divs > counted.Divs || recounted.Shifts > counted.Shifts {
			t.Errorf("Pass of %s: %s counts %+v, not %+v", show(p), show(q), recounted, counted)
		}
		if r := passed(t, q); !alike(r, q) {
			t.Errorf("Pass of %s: %s, and of that: %s", show(p), show(q), show(r))
		}
		steps, _ := walk(q)
		for k, s := range steps {
			if s.first >= 0 && holder(s.held, s.sets) >= 0 {
				t.Errorf("Pass of %s: %s: instruction %d reckons what is held", show(p), show(q), k)
			}
			if s.first >= 0 && s.first < k {
				again++
			}
		}
	}
	if again < 1000 {
		t.Errorf("%d keys come up again", again)
	}
}

// sorts are how many instructions a program has of each operation.
func sorts(p api.Prog) [shr + 1]int {
	var n [shr + 1]int
	for _, i := range p.Code {
		n[i.Op]++
	}
	return n
}
