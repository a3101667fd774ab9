package fold_test

import (
	"math/big"
	"testing"

	"swage/api"
	"swage/fold"
)

// P13.1: the chapter's examples, and others written out.
func TestPlain(t *testing.T) {
	for _, x := range [][2]string{
		{"r1 = r0 * 8", "r1 = r0 << 3"}, {"r1 = r0 / -1", "r1 = -r0"}, {"r1 = r0 + r0", "r1 = r0 << 1"}, {"r1 = r0 * 6", "r1 = r0 * 6"}, {"r1 = r0 * -2", "r1 = r0 * -2"},
		{"r1 = r0 * 1", "r1 = r0"}, {"r1 = r0 / 1", "r1 = r0"}, {"r1 = r0 * -1", "r1 = -r0"}, {"r1 = r1 * 1", "r1 = r1"}, {"r1 = r1 / -1", "r1 = -r1"},
		{"r1 = r0 * 2", "r1 = r0 << 1"}, {"r1 = r0 / 2", "r1 = r0 >> 1"}, {"r1 = r0 * 512", "r1 = r0 << 9"}, {"r1 = r0 / 512", "r1 = r0 >> 9"}, {"r1 = r0 / 256", "r1 = r0 >> 8"}, {"r1 = r0 * -512", "r1 = r0 * -512"}, {"r1 = r0 / -512", "r1 = r0 / -512"}, {"r1 = r0 / -2", "r1 = r0 / -2"}, {"r1 = r0 * 511", "r1 = r0 * 511"}, {"r1 = r0 / 3", "r1 = r0 / 3"},
		{"r3 = r3 + r3", "r3 = r3 << 1"}, {"r3 = r2 + r2", "r3 = r2 << 1"}, {"r0 = r127 + r127", "r0 = r127 << 1"}, {"r127 = r127 + r127", "r127 = r127 << 1"}, {"r3 = r3 + r2", "r3 = r3 + r2"}, {"r3 = r2 + r3", "r3 = r2 + r3"}, {"r3 = r2 - r2", "r3 = r2 - r2"}, {"r3 = r3 - r3", "r3 = r3 - r3"}, {"r0 = r0 + r0", "r0 = r0 << 1"},
		{"r1 = r1", "r1 = r1"}, {"r1 = r0", "r1 = r0"}, {"r1 = -r1", "r1 = -r1"}, {"r1 = -r0", "r1 = -r0"}, {"r1 = r0 << 1", "r1 = r0 << 1"}, {"r1 = r0 << 64", "r1 = r0 << 64"}, {"r1 = r0 >> 1", "r1 = r0 >> 1"}, {"r127 = r127 >> 64", "r127 = r127 >> 64"}, {"r127 = r126 * 1", "r127 = r126"},
	} {
		i, want := line(t, x[0]), line(t, x[1])
		if form, turned := fold.Plain(i); form != want || turned != (x[0] != x[1]) {
			t.Errorf("Plain of %s: %v, %v, not %v", x[0], form, turned, want)
		}
	}
}

// P13.1: each operation with each constant that it may have, on registers that are the same and that are not, the last one among them.
func TestPlainAll(t *testing.T) {
	others, turned := 0, 0
	for op := move; op <= shr; op++ {
		for _, c := range constants(op) {
			for _, regs := range [][3]int{{0, 0, 0}, {1, 0, 0}, {0, 1, 0}, {0, 1, 1}, {1, 1, 0}, {1, 1, 1}, {1, 0, 1}, {2, 0, 1}, {127, 127, 127}, {127, 126, 126}, {126, 127, 0}, {0, 127, 127}, {0, 0, 127}} {
				i := in(op, regs[0], regs[1], 0, c)
				if op == add || op == sub {
					i.B = regs[2]
				}
				form, other := fold.Plain(i)
				if want := plainOf(i); form != want || other != (want != i) {
					t.Errorf("Plain of %v: %v, %v, not %v", i, form, other, want)
				}
				if other {
					turned++
				} else {
					others++
				}
				if again, twice := fold.Plain(form); again != form || twice {
					t.Errorf("Plain of %v, which is plain: %v, %v", form, again, twice)
				}
			}
		}
	}
	if turned != 13*22+7 || others != 13*(4+2048+128-22)-7 {
		t.Errorf("%d are others, %d stay", turned, others)
	}
}

// P13.1: the plain form does what the instruction does, whatever it is done on, and fails where that fails.
func TestPlainDoesTheSame(t *testing.T) {
	m := maker(131)
	for op := move; op <= shr; op++ {
		for _, c := range constants(op) {
			for _, b := range []int{0, 1} {
				i := in(op, 2, 0, 0, c)
				if op == add || op == sub {
					i.B = b
				}
				form, _ := fold.Plain(i)
				for range 4 {
					held := append(m.numbers(2), new(big.Int))
					one, other := result(i, held[i.A], held[i.B]), result(form, held[form.A], held[form.B])
					if (one == nil) != (other == nil) || one != nil && one.Cmp(other) != 0 {
						t.Errorf("%v sets %v, %v sets %v, of %v", i, one, form, other, held)
					}
				}
			}
		}
	}
}

// P13.1, R1: of what may be in no program the zero value and false.
func TestPlainOfNone(t *testing.T) {
	for _, i := range stray() {
		if form, turned := fold.Plain(i); form != (api.Instr{}) || turned {
			t.Errorf("Plain of %v: %v, %v", i, form, turned)
		}
	}
}
