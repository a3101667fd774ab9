package dead_test

import (
	"slices"
	"testing"

	"swage/api"
	"swage/dead"
	"swage/prog"
)

// passed is what the pass makes of a program, which must be one.
func passed(t *testing.T, p api.Prog) api.Prog {
	t.Helper()
	q, e := dead.Pass(p)
	if e != api.OK {
		t.Fatalf("Pass of %s: %v", show(p), e)
	}
	return q
}

// holdIdle tells what is wrong, unless Idle of a program tells these.
func holdIdle(t *testing.T, p api.Prog, want []int) {
	t.Helper()
	if l := slices.Collect(dead.Idle(p)); !slices.Equal(l, want) {
		t.Errorf("Idle of %s: %v, not %v", show(p), l, want)
	}
}

// holdAsked tells what is wrong, unless this is Asked of a program.
func holdAsked(t *testing.T, p api.Prog, want []bool) {
	t.Helper()
	if l, e := dead.Asked(p); !slices.Equal(l, want) || e != api.OK {
		t.Errorf("Asked of %s: %v, %v, not %v", show(p), l, e, want)
	}
}

// holdAll tells what is wrong, unless the pass, Idle and Asked of a program are these.
func holdAll(t *testing.T, p, want api.Prog, idle []int, asked []bool) {
	t.Helper()
	if q := passed(t, p); !alike(q, want) {
		t.Errorf("Pass of %s: %s, not %s", show(p), show(q), show(want))
	}
	holdIdle(t, p, idle)
	holdAsked(t, p, asked)
}

// written is a program, what the pass makes of it, the numbers of its idle instructions, and the registers whose beginning is asked.
type written struct {
	text, want  string
	idle, asked []int
}

// holdWritten tells what is wrong with one of these.
func holdWritten(t *testing.T, l ...written) {
	t.Helper()
	for _, x := range l {
		p := read(t, x.text)
		asked := make([]bool, p.Regs)
		for _, r := range x.asked {
			asked[r] = true
		}
		holdAll(t, p, read(t, x.want), x.idle, asked)
	}
}

// P15.1, P15.2, P15.3: the chapter's examples.
func TestExamples(t *testing.T) {
	holdWritten(t,
		written{"in 2 regs 4 | r2 = r0 + r1 | r3 = r2 * 5 | r2 = r0 - r1 | r1 = r1 | out r2 r0", "in 2 regs 4 | r2 = r0 - r1 | out r2 r0", []int{0, 1, 3}, []int{0, 1}},
		written{"in 2 regs 3 | r2 = r1 / 7 | out r0", "in 2 regs 3 | out r0", []int{0}, []int{0}},
		written{"in 1 regs 3 | r1 = r2 + r0 | r2 = r1 | out r2 r2", "in 1 regs 3 | r1 = r2 + r0 | r2 = r1 | out r2 r2", nil, []int{0, 2}},
	)
}

// P15.1, P15.2, P15.3: no instruction: what Outs name is asked, and nothing else.
func TestNoInstruction(t *testing.T) {
	holdWritten(t,
		written{"in 1 regs 1 | out r0", "in 1 regs 1 | out r0", nil, []int{0}},
		written{"in 3 regs 3 | out r2 r0 r2", "in 3 regs 3 | out r2 r0 r2", nil, []int{0, 2}},
		written{"in 2 regs 5 | out r4 r1 r4", "in 2 regs 5 | out r4 r1 r4", nil, []int{1, 4}},
		written{"in 127 regs 128 | out r127", "in 127 regs 128 | out r127", nil, []int{127}},
	)
}

// P15.1, P15.2, P15.3: none that is idle.
func TestNoneIdle(t *testing.T) {
	for _, x := range []struct {
		text  string
		asked []int
	}{
		{"in 2 regs 3 | r2 = r0 - r1 | r2 = r2 / 2 | out r2 r0", []int{0, 1}},
		{"in 2 regs 2 | r0 = r1 | r1 = r0 | out r1", []int{1}},
		{"in 2 regs 3 | r2 = r0 | r0 = r1 | r1 = r2 | out r0 r1", []int{0, 1}},
		{"in 1 regs 4 | r1 = r0 * 3 | r2 = r1 + r0 | r3 = r2 - r1 | r0 = -r3 | out r0", []int{0}},
		{"in 1 regs 2 | r0 = r1 | out r0", []int{1}},
		{"in 1 regs 1 | r0 = -r0 | r0 = r0 << 64 | out r0", []int{0}},
	} {
		holdWritten(t, written{x.text, x.text, nil, x.asked})
	}
}

// P15.1, P15.2, P15.3: all are idle: nobody asks for them, or each asks for the next one alone; what they ask is not asked.
func TestAllIdle(t *testing.T) {
	holdWritten(t,
		written{"in 1 regs 2 | r1 = r0 | out r0", "in 1 regs 2 | out r0", []int{0}, []int{0}},
		written{"in 2 regs 5 | r2 = r1 * 3 | r3 = r2 - r4 | r4 = r3 / 7 | r1 = r4 >> 64 | out r0", "in 2 regs 5 | out r0", []int{0, 1, 2, 3}, []int{0}},
		written{"in 2 regs 4 | r2 = r2 + r1 | r2 = r2 + r3 | r2 = r2 - r0 | out r3 r1", "in 2 regs 4 | out r3 r1", []int{0, 1, 2}, []int{1, 3}},
		written{"in 2 regs 2 | r0 = r0 | r1 = r1 | r0 = r0 | out r1", "in 2 regs 2 | out r1", []int{0, 1, 2}, []int{1}},
		written{"in 1 regs 3 | r1 = r0 | r2 = r1 | r1 = r2 | r2 = r2 | out r0 r0", "in 1 regs 3 | out r0 r0", []int{0, 1, 2, 3}, []int{0}},
	)
}

// P15.1, P15.2, P15.3: an OpMove of a register to itself is idle, needed or not; what it asks is asked for by whoever asks for it.
func TestMoveToItself(t *testing.T) {
	holdWritten(t,
		written{"in 1 regs 2 | r1 = r0 | r1 = r1 | out r1", "in 1 regs 2 | r1 = r0 | out r1", []int{1}, []int{0}},
		written{"in 1 regs 2 | r1 = r1 | r1 = r0 | out r1", "in 1 regs 2 | r1 = r0 | out r1", []int{0}, []int{0}},
		written{"in 1 regs 2 | r1 = r0 | r1 = r1 | r0 = r1 | r0 = r1 | out r1", "in 1 regs 2 | r1 = r0 | out r1", []int{1, 2, 3}, []int{0}},
		written{"in 1 regs 2 | r0 = r0 | r1 = r0 * 3 | r1 = r1 | r0 = r0 | r1 = r1 + r0 | r1 = r1 | out r1", "in 1 regs 2 | r1 = r0 * 3 | r1 = r1 + r0 | out r1", []int{0, 2, 3, 5}, []int{0}},
		written{"in 1 regs 3 | r1 = -r0 | r1 = r1 | r2 = r2 | r1 = r0 | out r1 r2", "in 1 regs 3 | r1 = r0 | out r1 r2", []int{0, 1, 2}, []int{0, 2}},
		written{"in 1 regs 1 | r0 = r0 | r0 = r0 | out r0", "in 1 regs 1 | out r0", []int{0, 1}, []int{0}},
	)
}

// P15.1, P15.2, P15.3: what else leaves a register as it was stays, and so does a move between two that hold the same.
func TestOnlyMovesToItself(t *testing.T) {
	for _, s := range []string{"r0 = r0 * 1", "r0 = r0 / 1", "r0 = r0 + r1", "r0 = r0 - r1", "r0 = r1 + r0", "r0 = r0 + r0", "r0 = r0 - r0", "r0 = -r0", "r0 = r0 << 1", "r0 = r0 >> 1", "r0 = r1"} {
		text := "in 2 regs 2 | " + s + " | out r0"
		p := read(t, text)
		holdAll(t, p, p, nil, askedOf(p))
	}
	s := "in 1 regs 2 | r1 = r0 | r0 = r1 | r1 = r0 | out r1"
	holdWritten(t, written{s, s, nil, []int{0}})
}

// P15.1, P15.2, P15.3: an instruction that sets a register which it asks itself asks what stood there ahead of it; it is idle, if it asks for itself alone.
func TestAsksItself(t *testing.T) {
	holdWritten(t,
		written{"in 1 regs 2 | r0 = r0 * 3 | r0 = r0 - r0 | out r0 r1", "in 1 regs 2 | r0 = r0 * 3 | r0 = r0 - r0 | out r0 r1", nil, []int{0, 1}},
		written{"in 2 regs 3 | r2 = r0 - r1 | r2 = r2 * 3 | r2 = r1 - r2 | out r2", "in 2 regs 3 | r2 = r0 - r1 | r2 = r2 * 3 | r2 = r1 - r2 | out r2", nil, []int{0, 1}},
		written{"in 2 regs 3 | r2 = r0 - r1 | r2 = r2 * 3 | r2 = r2 + r2 | out r1", "in 2 regs 3 | out r1", []int{0, 1, 2}, []int{1}},
		written{"in 2 regs 3 | r2 = r2 + r0 | r2 = r0 + r2 | r2 = r1 | out r2", "in 2 regs 3 | r2 = r1 | out r2", []int{0, 1}, []int{1}},
		written{"in 1 regs 2 | r1 = r1 + r0 | r1 = r1 + r0 | out r1", "in 1 regs 2 | r1 = r1 + r0 | r1 = r1 + r0 | out r1", nil, []int{0, 1}},
		written{"in 1 regs 2 | r1 = r0 - r1 | r0 = r0 - r0 | out r1", "in 1 regs 2 | r1 = r0 - r1 | out r1", []int{1}, []int{0, 1}},
	)
}

// P15.1, P15.2, P15.3: a register that is set twice between two that ask it: the first one is idle, unless the second one asks for it.
func TestSetTwice(t *testing.T) {
	holdWritten(t,
		written{"in 1 regs 3 | r1 = r0 * 3 | r2 = r1 + r0 | r1 = r0 * 5 | r1 = r0 * 7 | r2 = r2 + r1 | out r2", "in 1 regs 3 | r1 = r0 * 3 | r2 = r1 + r0 | r1 = r0 * 7 | r2 = r2 + r1 | out r2", []int{2}, []int{0}},
		written{"in 1 regs 3 | r1 = r0 * 3 | r2 = r1 + r0 | r1 = r0 * 5 | r1 = r1 * 7 | r2 = r2 + r1 | out r2", "in 1 regs 3 | r1 = r0 * 3 | r2 = r1 + r0 | r1 = r0 * 5 | r1 = r1 * 7 | r2 = r2 + r1 | out r2", nil, []int{0}},
		written{"in 1 regs 3 | r2 = -r1 | r1 = r0 * 5 | r1 = r1 | r1 = r2 | r2 = r2 + r1 | out r2", "in 1 regs 3 | r2 = -r1 | r1 = r2 | r2 = r2 + r1 | out r2", []int{1, 2}, []int{1}},
		written{"in 2 regs 3 | r2 = r0 - r1 | r0 = r1 | r0 = r2 | r1 = r0 | r1 = r2 | out r0 r1", "in 2 regs 3 | r2 = r0 - r1 | r0 = r2 | r1 = r2 | out r0 r1", []int{1, 3}, []int{0, 1}},
		written{"in 2 regs 2 | r0 = r1 * 3 | r0 = r1 * 5 | r0 = r1 * 7 | out r0", "in 2 regs 2 | r0 = r1 * 7 | out r0", []int{0, 1}, []int{1}},
	)
}

// P15.3: the beginning of registers that no instruction sets, inputs and others: it is asked by instructions that stay and by Outs, not by those that are idle.
func TestNeverSet(t *testing.T) {
	holdWritten(t,
		written{"in 2 regs 4 | r2 = r1 + r3 | out r0", "in 2 regs 4 | out r0", []int{0}, []int{0}},
		written{"in 2 regs 4 | r2 = r1 + r3 | r0 = r0 | out r2", "in 2 regs 4 | r2 = r1 + r3 | out r2", []int{1}, []int{1, 3}},
		written{"in 3 regs 6 | r3 = r1 - r4 | r3 = r0 - r5 | out r3 r2", "in 3 regs 6 | r3 = r0 - r5 | out r3 r2", []int{0}, []int{0, 2, 5}},
		written{"in 2 regs 4 | r1 = r1 | r3 = r3 | r2 = r0 | out r2", "in 2 regs 4 | r2 = r0 | out r2", []int{0, 1}, []int{0}},
		written{"in 1 regs 128 | r1 = r127 + r126 | r2 = r125 - r124 | r0 = r1 | out r0", "in 1 regs 128 | r1 = r127 + r126 | r0 = r1 | out r0", []int{1}, []int{126, 127}},
		written{"in 3 regs 4 | r0 = -r3 | r1 = -r2 | r2 = -r0 | out r2", "in 3 regs 4 | r0 = -r3 | r2 = -r0 | out r2", []int{1}, []int{3}},
	)
}

// P15.1, P15.2, P15.3: outs that name a register twice, one that no instruction sets, one that an idle instruction alone sets, one that was asked and then set.
func TestOuts(t *testing.T) {
	holdWritten(t,
		written{"in 1 regs 3 | r1 = -r0 | r2 = -r1 | out r1 r1 r0 r1", "in 1 regs 3 | r1 = -r0 | out r1 r1 r0 r1", []int{1}, []int{0}},
		written{"in 2 regs 4 | r2 = -r0 | out r3 r2 r3", "in 2 regs 4 | r2 = -r0 | out r3 r2 r3", nil, []int{0, 3}},
		written{"in 2 regs 4 | r2 = -r0 | out r2 r1", "in 2 regs 4 | r2 = -r0 | out r2 r1", nil, []int{0, 1}},
		written{"in 1 regs 2 | r1 = r1 | out r1", "in 1 regs 2 | out r1", []int{0}, []int{1}},
		written{"in 2 regs 2 | r1 = r1 | r0 = r0 | out r0", "in 2 regs 2 | out r0", []int{0, 1}, []int{0}},
		written{"in 1 regs 2 | r0 = r0 | r1 = r0 * 3 | out r0 r1", "in 1 regs 2 | r1 = r0 * 3 | out r0 r1", []int{0}, []int{0}},
		written{"in 2 regs 2 | r0 = r1 | r1 = r1 | out r1 r0", "in 2 regs 2 | r0 = r1 | out r1 r0", []int{1}, []int{1}},
		written{"in 2 regs 2 | r0 = r1 | r1 = r0 - r0 | out r1 r0", "in 2 regs 2 | r0 = r1 | r1 = r0 - r0 | out r1 r0", nil, []int{1}},
	)
}

// P15.1, P15.2, P15.3: each sort of instruction, where it is asked for, where it is not, and where it is set anew.
func TestEachSort(t *testing.T) {
	for _, x := range []struct {
		sort  string
		asked []int
	}{
		{"r1", []int{1}}, {"-r1", []int{1}}, {"r0 + r1", []int{0, 1}}, {"r1 - r0", []int{0, 1}}, {"r1 + r4", []int{1, 4}}, {"r4 - r1", []int{1, 4}}, {"r1 - r1", []int{1}},
		{"r1 * 512", []int{1}}, {"r1 * -512", []int{1}}, {"r1 / 512", []int{1}}, {"r1 / -512", []int{1}}, {"r1 << 64", []int{1}}, {"r1 << 1", []int{1}}, {"r1 >> 1", []int{1}}, {"r1 >> 64", []int{1}},
	} {
		holdWritten(t,
			written{"in 2 regs 5 | r3 = " + x.sort + " | out r3", "in 2 regs 5 | r3 = " + x.sort + " | out r3", nil, x.asked},
			written{"in 2 regs 5 | r3 = " + x.sort + " | out r2", "in 2 regs 5 | out r2", []int{0}, []int{2}},
			written{"in 2 regs 5 | r3 = " + x.sort + " | r3 = -r2 | out r3", "in 2 regs 5 | r3 = -r2 | out r3", []int{0}, []int{2}},
			written{"in 2 regs 5 | r3 = " + x.sort + " | r2 = -r3 | r3 = -r2 | out r3", "in 2 regs 5 | r3 = " + x.sort + " | r2 = -r3 | r3 = -r2 | out r3", nil, x.asked},
			written{"in 2 regs 5 | r3 = " + x.sort + " | r2 = r3 + r3 | r3 = -r3 | out r3", "in 2 regs 5 | r3 = " + x.sort + " | r3 = -r3 | out r3", []int{1}, x.asked},
		)
	}
}

// P15.1, P15.2, P15.3, R2: ErrProg of programs that may not be, also where what may not be is asked by nobody, and nothing beside it; Idle tells nothing.
func TestNone(t *testing.T) {
	for _, p := range wrong() {
		if q, e := dead.Pass(p); e != api.ErrProg || !alike(q, api.Prog{}) {
			t.Errorf("Pass of %s: %s, %v", show(p), show(q), e)
		}
		if l, e := dead.Asked(p); e != api.ErrProg || len(l) != 0 {
			t.Errorf("Asked of %s: %v, %v", show(p), l, e)
		}
		holdIdle(t, p, nil)
	}
}

// P15.1, P15.2, P15.3: of programs drawn at random all three answer what the chapter's words say.
func TestMany(t *testing.T) {
	idle, needless, kept, asked, unasked := 0, 0, 0, 0, 0
	for _, p := range some(8000) {
		want := passOf(p)
		holdAll(t, p, want, idleOf(p), askedOf(p))
		idle += len(p.Code) - len(want.Code)
		kept += len(want.Code)
		for k, needed := range neededOf(p) {
			if needed && !slices.Contains(want.Code, p.Code[k]) {
				needless++
			}
		}
		for _, is := range askedOf(p)[:p.Ins] {
			if is {
				asked++
			} else {
				unasked++
			}
		}
	}
	if idle < 20000 || needless < 1000 || kept < 20000 || asked < 5000 || unasked < 5000 {
		t.Errorf("%d idle, %d of them needed; %d stay; %d inputs are asked, %d are not", idle, needless, kept, asked, unasked)
	}
}

// small are all instructions on two registers, with one constant each.
func small() []api.Instr {
	var l []api.Instr
	for op := move; op <= shr; op++ {
		for _, regs := range [][2]int{{0, 0}, {0, 1}, {1, 0}, {1, 1}} {
			c := map[int]int{mul: 2, div: 2, shl: 1, shr: 1}[op]
			l = append(l, in(op, regs[0], regs[1], 0, c))
			if asksBoth(op) {
				l = append(l, in(op, regs[0], regs[1], 1, c))
			}
		}
	}
	return l
}

// P15.1, P15.2, P15.3: every three instructions of small, where one register is an input, and where both are; one out, the other one, or both.
func TestTriples(t *testing.T) {
	l := small()
	for _, a := range l {
		for _, b := range l {
			for n, c := range l {
				p := alone(a, b, c)
				p.Ins = 1 + n%2
				for _, outs := range [][]int{{0}, {1}, {0, 1}} {
					p.Outs = outs
					holdAll(t, p, passOf(p), idleOf(p), askedOf(p))
				}
			}
		}
	}
}

// rising are the numbers from a to below b, by steps.
func rising(a, b, step int) []int {
	var l []int
	for k := a; k < b; k += step {
		l = append(l, k)
	}
	return l
}

// P15.1, P15.2, P15.3: as many instructions as may be, of which none stays, or one, or half of them, or all.
func TestLong(t *testing.T) {
	three, tower, self, other := in(mul, 1, 0, 0, 3), in(mul, 0, 0, 0, 3), in(move, 1, 1, 0, 0), in(sub, 1, 1, 1, 0)
	turns := slices.Repeat([]api.Instr{tower, self}, mostCode/2)
	both, first := []bool{true, true}, []bool{true, false}
	for _, x := range []struct {
		code, want  []api.Instr
		outs, idle  []int
		beginnings  []bool
		description string
	}{
		{times(mostCode, three), times(1, three), []int{1}, rising(0, mostCode-1, 1), first, "set anew"},
		{times(mostCode, three), nil, []int{0}, rising(0, mostCode, 1), first, "nobody asks"},
		{times(mostCode, tower), times(mostCode, tower), []int{0, 1}, nil, both, "a tower"},
		{times(mostCode, tower), nil, []int{1}, rising(0, mostCode, 1), []bool{false, true}, "a tower that nobody asks"},
		{times(mostCode, self), nil, []int{1, 0}, rising(0, mostCode, 1), both, "moves to itself"},
		{turns, times(mostCode/2, tower), []int{0, 1}, rising(1, mostCode, 2), both, "turns"},
		{turns, times(mostCode/2, tower), []int{0}, rising(1, mostCode, 2), first, "turns, one asked"},
		{turns, nil, []int{1}, rising(0, mostCode, 1), []bool{false, true}, "turns, the other one asked"},
		{times(mostCode, other), times(mostCode, other), []int{1}, nil, []bool{false, true}, "asks itself"},
	} {
		p, want := alone(x.code...), alone(x.want...)
		p.Outs, want.Outs = x.outs, x.outs
		if q := passed(t, p); !alike(q, want) {
			t.Errorf("%s: %s, not %s", x.description, show(q), show(want))
		}
		if l := slices.Collect(dead.Idle(p)); !slices.Equal(l, x.idle) {
			t.Errorf("%s: %d are idle, not %d", x.description, len(l), len(x.idle))
		}
		holdAsked(t, p, x.beginnings)
	}
}

// P15.1, P15.2, P15.3: as many registers as may be, handed down from the last one to the first, and each reckoned from the one behind it, all outs or one of them.
func TestWide(t *testing.T) {
	for ins := 1; ins <= mostRegs; ins += 127 {
		p := api.Prog{Ins: ins, Regs: mostRegs, Outs: []int{0}}
		for r := mostRegs - 2; r >= 0; r-- {
			p.Code = append(p.Code, in(neg, r, r+1, 0, 0))
		}
		last := make([]bool, mostRegs)
		last[127] = true
		holdAll(t, p, p, nil, last)
		p.Outs = []int{100}
		want := p
		want.Code = p.Code[:27]
		holdAll(t, p, want, rising(27, 127, 1), last)
		p.Code, want.Code = nil, nil
		p.Outs = rising(0, mostRegs, 1)
		want.Outs = p.Outs
		all := slices.Repeat([]bool{true}, mostRegs)
		holdAll(t, p, want, nil, all)
		for r := range mostRegs - 1 {
			p.Code = append(p.Code, in(move, r, r, 0, 0), in(sub, r, r+1, 0, 0))
			want.Code = append(want.Code, in(sub, r, r+1, 0, 0))
		}
		set := slices.Repeat([]bool{true}, mostRegs)
		holdAll(t, p, want, rising(0, 254, 2), set)
		p.Outs = rising(1, mostRegs, 1)
		want.Outs = p.Outs
		holdAll(t, p, want, rising(0, 254, 2), set)
	}
}

// P15.5: in what the pass makes, which may be, each instruction is needed; the pass of it is it again; it has as many instructions as are not idle; none of it is idle; Asked of it is Asked of p.
func TestAllNeeded(t *testing.T) {
	shorter := 0
	for _, p := range some(6000) {
		q := passed(t, p)
		if k, e := prog.Check(q); k != 0 || e != api.OK {
			t.Fatalf("Pass of %s: %s, which may not be: %d, %v", show(p), show(q), k, e)
		}
		if q.Ins != p.Ins || q.Regs != p.Regs || !slices.Equal(q.Outs, p.Outs) {
			t.Errorf("Pass of %s: %s", show(p), show(q))
		}
		needed, e := prog.Needed(q)
		if e != api.OK || slices.Contains(needed, false) || slices.Contains(neededOf(q), false) {
			t.Errorf("Pass of %s: %s: needed: %v, %v", show(p), show(q), needed, e)
		}
		if r := passed(t, q); !alike(r, q) {
			t.Errorf("Pass of %s: %s, and of that: %s", show(p), show(q), show(r))
		}
		if n := len(slices.Collect(dead.Idle(p))); len(q.Code) != len(p.Code)-n {
			t.Errorf("Pass of %s: %s, though %d are idle", show(p), show(q), n)
		}
		holdIdle(t, q, nil)
		asked, _ := dead.Asked(p)
		holdAsked(t, q, asked)
		if len(q.Code) < len(p.Code) {
			shorter++
		}
	}
	if shorter < 5000 {
		t.Errorf("%d became shorter", shorter)
	}
}
