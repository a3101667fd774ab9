package order_test

import (
	"slices"
	"testing"

	"swage/api"
	"swage/order"
	"swage/prog"
)

// packed is what Pack makes of a program, which must be one.
func packed(t *testing.T, p api.Prog) api.Prog {
	t.Helper()
	q, e := order.Pack(p)
	if e != api.OK {
		t.Fatalf("Pack of %s: %v", show(p), e)
	}
	return q
}

// alive is what a program needs at once, which must be one.
func alive(t *testing.T, p api.Prog) int {
	t.Helper()
	n, e := order.Alive(p)
	if e != api.OK {
		t.Fatalf("Alive of %s: %v", show(p), e)
	}
	return n
}

// hold tells what is wrong, unless Pack and Alive of a program are these.
func hold(t *testing.T, p, want api.Prog, most int) {
	t.Helper()
	if q := packed(t, p); !alike(q, want) {
		t.Errorf("Pack of %s: %s, not %s", show(p), show(q), show(want))
	}
	if n := alive(t, p); n != most {
		t.Errorf("Alive of %s: %d, not %d", show(p), n, most)
	}
}

// written is a program, what Pack makes of it, and how many values it needs at once.
type written struct {
	text, want string
	most       int
}

// holdWritten tells what is wrong with one of these.
func holdWritten(t *testing.T, l ...written) {
	t.Helper()
	for _, x := range l {
		hold(t, read(t, x.text), read(t, x.want), x.most)
	}
}

// P16.1, P16.2: the chapter's examples.
func TestExamples(t *testing.T) {
	holdWritten(t,
		written{"in 2 regs 9 | r5 = r0 + r1 | r7 = r5 * 3 | r8 = r0 | out r7 r1", "in 2 regs 2 | r0 = r0 + r1 | r0 = r0 * 3 | out r0 r1", 2},
		written{"in 1 regs 4 | r2 = r0 - r3 | out r2 r2 r3", "in 1 regs 2 | r0 = r0 - r1 | out r0 r0 r1", 2},
	)
}

// P16.1, P16.2: no instruction: what Outs name is alive, each value once.
func TestNoInstruction(t *testing.T) {
	holdWritten(t,
		written{"in 1 regs 1 | out r0", "in 1 regs 1 | out r0", 1},
		written{"in 1 regs 9 | out r0", "in 1 regs 1 | out r0", 1},
		written{"in 3 regs 7 | out r2 r0 r2", "in 3 regs 3 | out r2 r0 r2", 2},
		written{"in 3 regs 7 | out r1 r1 r1", "in 3 regs 3 | out r1 r1 r1", 1},
		written{"in 2 regs 5 | out r4 r1 r3 r4", "in 2 regs 3 | out r2 r1 r2 r2", 2},
		written{"in 3 regs 5 | out r3", "in 3 regs 4 | out r3", 1},
		written{"in 3 regs 5 | out r4", "in 3 regs 4 | out r3", 1},
		written{"in 127 regs 128 | out r127", "in 127 regs 128 | out r127", 1},
		written{"in 128 regs 128 | out r127", "in 128 regs 128 | out r127", 1},
	)
}

// P16.1, P16.2: none that is needed: nothing of them is left, and what they ask is not asked by them.
func TestNoneNeeded(t *testing.T) {
	holdWritten(t,
		written{"in 1 regs 2 | r1 = r0 | out r0", "in 1 regs 1 | out r0", 1},
		written{"in 2 regs 5 | r2 = r1 * 3 | r3 = r2 - r4 | r4 = r3 / 7 | r1 = r4 >> 64 | out r0", "in 2 regs 2 | out r0", 1},
		written{"in 2 regs 4 | r2 = r2 + r1 | r2 = r2 + r3 | r2 = r2 - r0 | out r3 r1", "in 2 regs 3 | out r2 r1", 2},
		written{"in 2 regs 3 | r2 = r0 + r1 | r1 = r0 + r2 | r2 = r1 - r0 | out r0 r0", "in 2 regs 2 | out r0 r0", 1},
	)
}

// P16.1, P16.2: all that are needed.
func TestAllNeeded(t *testing.T) {
	holdWritten(t,
		written{"in 2 regs 3 | r2 = r0 - r1 | r2 = r2 / 2 | out r2 r0", "in 2 regs 2 | r1 = r0 - r1 | r1 = r1 / 2 | out r1 r0", 2},
		written{"in 2 regs 3 | r2 = r0 | r0 = r1 | r1 = r2 | out r0 r1", "in 2 regs 2 | r0 = r0 | r1 = r1 | r0 = r0 | out r1 r0", 2},
		written{"in 1 regs 4 | r1 = r0 * 3 | r2 = r1 + r0 | r3 = r2 - r1 | r0 = -r3 | out r0", "in 1 regs 2 | r1 = r0 * 3 | r0 = r1 + r0 | r0 = r0 - r1 | r0 = -r0 | out r0", 2},
		written{"in 2 regs 6 | r5 = r0 + r1 | r4 = r0 - r1 | r3 = r5 + r0 | r2 = r4 - r3 | out r2 r3 r4 r5", "in 2 regs 4 | r2 = r0 + r1 | r1 = r0 - r1 | r0 = r2 + r0 | r3 = r1 - r0 | out r3 r0 r1 r2", 4},
		written{"in 1 regs 6 | r1 = r0 * 3 | r2 = r0 * 5 | r3 = r0 * 7 | r4 = r2 + r1 | r5 = r4 + r3 | out r5", "in 1 regs 3 | r1 = r0 * 3 | r2 = r0 * 5 | r0 = r0 * 7 | r1 = r2 + r1 | r0 = r1 + r0 | out r0", 3},
	)
}

// P16.1, P16.2: inputs that nobody asks are free at once, those that needless instructions alone ask too; those that Outs alone name stay where they stand.
func TestInputs(t *testing.T) {
	holdWritten(t,
		written{"in 3 regs 4 | r3 = r2 * 3 | out r3", "in 3 regs 3 | r0 = r2 * 3 | out r0", 1},
		written{"in 3 regs 5 | r3 = r2 * 3 | r4 = r2 * 5 | out r3 r4", "in 3 regs 3 | r0 = r2 * 3 | r1 = r2 * 5 | out r0 r1", 2},
		written{"in 3 regs 5 | r4 = r0 + r1 | r3 = r2 * 3 | out r3", "in 3 regs 3 | r0 = r2 * 3 | out r0", 1},
		written{"in 3 regs 4 | r3 = r2 * 3 | out r3 r0", "in 3 regs 3 | r1 = r2 * 3 | out r1 r0", 2},
		written{"in 3 regs 5 | r3 = r2 * 3 | r4 = r2 * 5 | out r1 r3 r4 r0", "in 3 regs 4 | r3 = r2 * 3 | r2 = r2 * 5 | out r1 r3 r2 r0", 4},
		written{"in 2 regs 2 | r0 = r1 | r1 = r0 | out r1", "in 2 regs 2 | r0 = r1 | r0 = r0 | out r0", 1},
		written{"in 2 regs 3 | r2 = -r1 | r0 = r2 | r0 = -r0 | out r0", "in 2 regs 2 | r0 = -r1 | r0 = r0 | r0 = -r0 | out r0", 1},
		written{"in 4 regs 4 | r0 = r3 - r3 | out r0 r1", "in 4 regs 4 | r0 = r3 - r3 | out r0 r1", 2},
	)
}

// P16.1, P16.2: the 0 of registers that nothing sets, and of those that are set later on, is one value: asked by an instruction, by Outs, by both, by none.
func TestNought(t *testing.T) {
	holdWritten(t,
		written{"in 1 regs 2 | r0 = r1 | out r0", "in 1 regs 2 | r0 = r1 | out r0", 1},
		written{"in 1 regs 9 | r0 = r8 | out r0", "in 1 regs 2 | r0 = r1 | out r0", 1},
		written{"in 1 regs 9 | r0 = -r0 | out r8 r0", "in 1 regs 2 | r0 = -r0 | out r1 r0", 2},
		written{"in 1 regs 9 | r7 = r0 - r5 | out r7 r8 r6", "in 1 regs 2 | r0 = r0 - r1 | out r0 r1 r1", 2},
		written{"in 2 regs 9 | r7 = r5 + r4 | out r7 r0 r1", "in 2 regs 3 | r2 = r2 + r2 | out r2 r0 r1", 3},
		written{"in 2 regs 9 | r7 = r5 + r4 | out r7 r3 r1", "in 2 regs 3 | r0 = r2 + r2 | out r0 r2 r1", 3},
		written{"in 1 regs 4 | r2 = r1 - r3 | r0 = r2 + r3 | out r0", "in 1 regs 2 | r0 = r1 - r1 | r0 = r0 + r1 | out r0", 2},
		written{"in 1 regs 4 | r1 = r0 + r3 | r2 = r1 * 3 | r3 = r2 - r1 | out r3", "in 1 regs 2 | r0 = r0 + r1 | r1 = r0 * 3 | r0 = r1 - r0 | out r0", 2},
		written{"in 1 regs 5 | r1 = r0 + r4 | r2 = r1 * 3 | r4 = r2 - r3 | r3 = r4 + r1 | out r3", "in 1 regs 3 | r0 = r0 + r1 | r2 = r0 * 3 | r1 = r2 - r1 | r0 = r1 + r0 | out r0", 3},
		written{"in 1 regs 4 | r1 = r1 + r2 | r2 = r2 + r3 | r3 = r3 + r0 | out r1 r2 r3", "in 1 regs 4 | r2 = r1 + r1 | r3 = r1 + r1 | r0 = r1 + r0 | out r2 r3 r0", 4},
		written{"in 1 regs 5 | r2 = r4 * 3 | r3 = r4 * 5 | r1 = r2 - r3 | out r1", "in 1 regs 2 | r0 = r1 * 3 | r1 = r1 * 5 | r0 = r0 - r1 | out r0", 2},
		written{"in 1 regs 9 | r7 = r8 + r6 | r7 = r0 | out r7", "in 1 regs 1 | r0 = r0 | out r0", 1},
		written{"in 2 regs 3 | r1 = r2 | r2 = r0 | out r2 r1", "in 2 regs 3 | r1 = r2 | r0 = r0 | out r0 r1", 2},
		written{"in 1 regs 3 | r1 = r1 * 3 | r2 = -r2 | out r2 r0 r1", "in 1 regs 3 | r2 = r1 * 3 | r1 = -r1 | out r1 r0 r2", 3},
	)
}

// P16.1, P16.2: an instruction that sets a register which it asks itself; where it asks for itself alone it is left out.
func TestAsksItself(t *testing.T) {
	holdWritten(t,
		written{"in 1 regs 2 | r0 = r0 * 3 | r0 = r0 - r0 | out r0 r1", "in 1 regs 2 | r0 = r0 * 3 | r0 = r0 - r0 | out r0 r1", 2},
		written{"in 2 regs 3 | r2 = r0 - r1 | r2 = r2 * 3 | r2 = r1 - r2 | out r2", "in 2 regs 2 | r0 = r0 - r1 | r0 = r0 * 3 | r0 = r1 - r0 | out r0", 2},
		written{"in 2 regs 3 | r2 = r0 - r1 | r2 = r2 * 3 | r2 = r2 + r2 | out r1", "in 2 regs 2 | out r1", 1},
		written{"in 2 regs 3 | r2 = r2 + r0 | r2 = r2 + r1 | out r2", "in 2 regs 3 | r0 = r2 + r0 | r0 = r0 + r1 | out r0", 3},
		written{"in 1 regs 2 | r1 = r0 | r1 = r1 | out r1", "in 1 regs 1 | r0 = r0 | r0 = r0 | out r0", 1},
		written{"in 1 regs 2 | r1 = r1 | out r0 r1", "in 1 regs 2 | r1 = r1 | out r0 r1", 2},
		written{"in 1 regs 2 | r1 = r1 | out r1", "in 1 regs 2 | r0 = r1 | out r0", 1},
		written{"in 2 regs 2 | r1 = r1 - r0 | r1 = r1 + r1 | out r1 r0", "in 2 regs 2 | r1 = r1 - r0 | r1 = r1 + r1 | out r1 r0", 2},
	)
}

// P16.1, P16.2: a register that is set twice between two that ask it: what it held ahead lives up to those that ask it, what is lost is left out.
func TestSetTwice(t *testing.T) {
	holdWritten(t,
		written{"in 1 regs 3 | r1 = r0 * 3 | r2 = r1 + r0 | r1 = r0 * 5 | r1 = r0 * 7 | r2 = r2 + r1 | out r2", "in 1 regs 2 | r1 = r0 * 3 | r1 = r1 + r0 | r0 = r0 * 7 | r0 = r1 + r0 | out r0", 2},
		written{"in 1 regs 3 | r1 = r0 * 3 | r2 = r1 + r0 | r1 = r0 * 5 | r1 = r1 * 7 | r2 = r2 + r1 | out r2", "in 1 regs 2 | r1 = r0 * 3 | r1 = r1 + r0 | r0 = r0 * 5 | r0 = r0 * 7 | r0 = r1 + r0 | out r0", 2},
		written{"in 2 regs 2 | r0 = r1 * 3 | r0 = r1 * 5 | r0 = r1 * 7 | out r0", "in 2 regs 2 | r0 = r1 * 7 | out r0", 1},
		written{"in 1 regs 3 | r2 = -r1 | r1 = r0 * 5 | r1 = r2 | r2 = r2 + r1 | out r2", "in 1 regs 2 | r0 = -r1 | r1 = r0 | r0 = r0 + r1 | out r0", 2},
		written{"in 2 regs 3 | r2 = r0 - r1 | r0 = r1 | r0 = r2 | r1 = r0 | r1 = r2 | out r0 r1", "in 2 regs 2 | r0 = r0 - r1 | r1 = r0 | r0 = r0 | out r1 r0", 2},
	)
}

// P16.1, P16.2: a value that is asked at the end, and by instructions ahead of it; outs that name a register twice, or one that no instruction sets.
func TestOuts(t *testing.T) {
	holdWritten(t,
		written{"in 1 regs 4 | r1 = -r0 | r2 = r1 * 3 | r3 = r1 + r2 | out r1 r3", "in 1 regs 2 | r0 = -r0 | r1 = r0 * 3 | r1 = r0 + r1 | out r0 r1", 2},
		written{"in 1 regs 3 | r1 = -r0 | r2 = -r1 | out r1 r1 r0 r1", "in 1 regs 2 | r1 = -r0 | out r1 r1 r0 r1", 2},
		written{"in 2 regs 4 | r2 = -r0 | out r3 r2 r3", "in 2 regs 3 | r0 = -r0 | out r2 r0 r2", 2},
		written{"in 2 regs 4 | r2 = -r0 | out r2 r1", "in 2 regs 2 | r0 = -r0 | out r0 r1", 2},
		written{"in 2 regs 3 | r0 = r0 + r1 | r2 = r0 + r0 | out r2 r0 r2 r1", "in 2 regs 3 | r0 = r0 + r1 | r2 = r0 + r0 | out r2 r0 r2 r1", 3},
		written{"in 2 regs 3 | r2 = r0 | r0 = r1 | out r0 r2", "in 2 regs 2 | r0 = r0 | r1 = r1 | out r1 r0", 2},
		written{"in 1 regs 9 | r8 = r0 | r7 = r0 | r6 = r0 | out r6 r7 r8", "in 1 regs 3 | r1 = r0 | r2 = r0 | r0 = r0 | out r0 r2 r1", 3},
	)
}

// P16.1, P16.2: each sort of instruction, asking an input that goes on, one that does not, and the 0; B stays 0 where it is not asked.
func TestEachSort(t *testing.T) {
	for op := move; op <= shr; op++ {
		for _, c := range constants(op) {
			for a := range 5 {
				for b := range 5 {
					if b == 0 || asksBoth(op) {
						holdByWords(t, api.Prog{Ins: 3, Regs: 5, Code: []api.Instr{in(op, 4, a, b, c), in(sub, 3, 2, 4, 0)}, Outs: []int{3, 1}})
					}
				}
			}
		}
	}
	for _, s := range []string{"r1", "-r1", "r1 * -512", "r1 / 512", "r1 << 64", "r1 >> 1"} {
		holdWritten(t,
			written{"in 2 regs 5 | r3 = " + s + " | out r3", "in 2 regs 2 | r0 = " + s + " | out r0", 1},
			written{"in 2 regs 5 | r3 = " + s + " | out r0 r3", "in 2 regs 2 | r1 = " + s + " | out r0 r1", 2},
			written{"in 2 regs 5 | r3 = " + s + " | r1 = r0 + r1 | out r3 r1", "in 2 regs 3 | r2 = " + s + " | r0 = r0 + r1 | out r2 r0", 3},
		)
	}
}

// holdByWords tells what is wrong, unless Pack and Alive of a program are what the chapter's words say.
func holdByWords(t *testing.T, p api.Prog) {
	t.Helper()
	hold(t, p, packOf(p), aliveOf(p))
}

// P16.1, P16.2: of programs drawn at random both answer what the chapter's words say.
func TestMany(t *testing.T) {
	shorter, narrower, noughts, unasked, full, above := 0, 0, 0, 0, 0, 0
	for _, p := range some(6000) {
		want, most := packOf(p), aliveOf(p)
		hold(t, p, want, most)
		count := func(n *int, is bool) {
			if is {
				*n++
			}
		}
		values := valuesOf(p)
		count(&shorter, len(want.Code) < len(p.Code))
		count(&narrower, want.Regs < p.Regs)
		count(&noughts, len(values[p.Ins].asked) > 0)
		count(&unasked, len(values[0].asked) == 0)
		count(&full, want.Regs == most && most > p.Ins)
		count(&above, want.Regs > max(p.Ins, most))
	}
	if shorter < 5000 || narrower < 5000 || noughts < 3000 || unasked < 1000 || full < 2000 || above < 200 {
		t.Errorf("%d became shorter, %d narrower; the 0 is asked in %d, the first input is not in %d; %d need all registers, %d one more than alive", shorter, narrower, noughts, unasked, full, above)
	}
}

// small are all changes of sign, and all differences, on three registers.
func small() []api.Instr {
	var l []api.Instr
	for to := range 3 {
		for a := range 3 {
			l = append(l, in(neg, to, a, 0, 0))
			for b := range 3 {
				l = append(l, in(sub, to, a, b, 0))
			}
		}
	}
	return l
}

// P16.1, P16.2: every three instructions of small, with one, two and three inputs; one out, or two, or all three.
func TestTriples(t *testing.T) {
	l := small()
	outs := [][]int{{0}, {1}, {2}, {2, 1}, {0, 2, 0}, {0, 1, 2}}
	n := 0
	for _, a := range l {
		for _, b := range l {
			for _, c := range l {
				p := api.Prog{Ins: 1 + n%3, Regs: 3, Code: []api.Instr{a, b, c}, Outs: outs[n/3%len(outs)]}
				holdByWords(t, p)
				n += 5 // so that inputs and outs come in all pairs
			}
		}
	}
	for _, a := range l {
		for _, b := range l {
			for n := range 18 {
				holdByWords(t, api.Prog{Ins: 1 + n%3, Regs: 3, Code: []api.Instr{a, b}, Outs: outs[n/3]})
			}
		}
	}
}

// P16.1, P16.2: as many instructions as may be, of which none is needed, or one, or half of them, or all.
func TestLong(t *testing.T) {
	three, tower, other := in(mul, 1, 0, 0, 3), in(mul, 0, 0, 0, 3), in(sub, 1, 1, 1, 0)
	turns := slices.Repeat([]api.Instr{tower, in(add, 1, 0, 1, 0)}, mostCode/2)
	swaps := slices.Repeat([]api.Instr{in(sub, 1, 0, 1, 0), in(sub, 0, 1, 0, 0)}, mostCode/2)
	for _, x := range []struct {
		ins         int
		code        []api.Instr
		outs        []int
		want        api.Prog
		most        int
		description string
	}{
		{1, times(mostCode, three), []int{1}, api.Prog{Ins: 1, Regs: 1, Code: times(1, tower), Outs: []int{0}}, 1, "set anew"},
		{1, times(mostCode, three), []int{0}, api.Prog{Ins: 1, Regs: 1, Outs: []int{0}}, 1, "nobody asks"},
		{1, times(mostCode, tower), []int{0, 1}, api.Prog{Ins: 1, Regs: 2, Code: times(mostCode, tower), Outs: []int{0, 1}}, 2, "a tower, and the 0"},
		{2, times(mostCode, other), []int{1}, api.Prog{Ins: 2, Regs: 2, Code: append([]api.Instr{in(sub, 0, 1, 1, 0)}, times(mostCode-1, in(sub, 0, 0, 0, 0))...), Outs: []int{0}}, 1, "asks itself"},
		{2, turns, []int{0}, api.Prog{Ins: 2, Regs: 2, Code: times(mostCode/2, tower), Outs: []int{0}}, 1, "turns, one asked"},
		{2, turns, []int{1, 0}, api.Prog{Ins: 2, Regs: 2, Code: turns, Outs: []int{1, 0}}, 2, "turns"},
		{2, swaps, []int{0, 1}, api.Prog{Ins: 2, Regs: 2, Code: swaps, Outs: []int{0, 1}}, 2, "in turn"},
	} {
		p := api.Prog{Ins: x.ins, Regs: 2, Code: x.code, Outs: x.outs}
		if q := packed(t, p); !alike(q, x.want) {
			t.Errorf("%s: %s, not %s", x.description, show(q), show(x.want))
		}
		if n := alive(t, p); n != x.most {
			t.Errorf("%s: %d are alive, not %d", x.description, n, x.most)
		}
	}
}

// P16.1, P16.2: as many registers as may be: all inputs, all but one, and one input from which all others are reckoned, or none.
func TestWide(t *testing.T) {
	all := rising(0, mostRegs)
	for ins := 1; ins <= mostRegs; ins++ {
		p := api.Prog{Ins: ins, Regs: mostRegs, Outs: all}
		want := api.Prog{Ins: ins, Regs: min(ins+1, mostRegs)}
		for r := range mostRegs {
			want.Outs = append(want.Outs, min(r, ins))
		}
		hold(t, p, want, want.Regs)
		p.Outs = []int{ins - 1}
		hold(t, p, api.Prog{Ins: ins, Regs: ins, Outs: p.Outs}, 1)
	}
	fan := api.Prog{Ins: 1, Regs: mostRegs, Outs: all}
	for r := 1; r < mostRegs; r++ {
		fan.Code = append(fan.Code, in(neg, r, 0, 0, 0))
	}
	hold(t, fan, fan, mostRegs)
	fan.Outs = []int{5}
	hold(t, fan, api.Prog{Ins: 1, Regs: 1, Code: times(1, in(neg, 0, 0, 0, 0)), Outs: []int{0}}, 1)
	fan.Code[mostRegs-2].A, fan.Outs = mostRegs-1, all // the last one asks the 0, for which r1 is kept up to there
	want := prog.Copy(fan)
	for k := range mostRegs - 2 {
		want.Code[k].To = k + 2
		want.Outs[k+1] = k + 2
	}
	want.Code[mostRegs-2] = in(neg, 1, 1, 0, 0)
	want.Outs[mostRegs-1] = 1
	hold(t, fan, want, mostRegs)
}

// P16.1, P16.2, P16.5: as many inputs as registers may be: no value is given another place but where one has gone.
func TestAllInputs(t *testing.T) {
	p := api.Prog{Ins: mostRegs, Regs: mostRegs, Outs: rising(0, mostRegs)}
	for r := range mostRegs {
		p.Code = append(p.Code, in(sub, r, (r+1)%mostRegs, r, 0))
	}
	hold(t, p, p, mostRegs)
	p.Outs = []int{127}
	hold(t, p, api.Prog{Ins: mostRegs, Regs: mostRegs, Code: []api.Instr{in(sub, 0, 1, 0, 0), in(sub, 0, 0, 127, 0)}, Outs: []int{0}}, 3)
}

// P16.1, P16.2, R2: ErrProg of programs that may not be, and nothing beside it.
func TestNone(t *testing.T) {
	for _, p := range wrong() {
		if q, e := order.Pack(p); e != api.ErrProg || !alike(q, api.Prog{}) {
			t.Errorf("Pack of %s: %s, %v", show(p), show(q), e)
		}
		if n, e := order.Alive(p); e != api.ErrProg || n != 0 {
			t.Errorf("Alive of %s: %d, %v", show(p), n, e)
		}
	}
}
