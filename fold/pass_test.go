package fold_test

import (
	"slices"
	"testing"

	"swage/api"
	"swage/fold"
	"swage/prog"
)

// passed is what the pass makes of a program, which must be one.
func passed(t *testing.T, p api.Prog) api.Prog {
	t.Helper()
	q, e := fold.Pass(p)
	if e != api.OK {
		t.Fatalf("Pass of %s: %v", show(p), e)
	}
	return q
}

// P13.3: the chapter's example, and others written out.
func TestPass(t *testing.T) {
	for _, x := range [][2]string{
		{"in 1 regs 2 | r1 = r0 * 4 | r1 = r1 / 2 | r1 = r1 / -2 | r1 = -r1 | out r1", "in 1 regs 2 | r1 = r0 | out r1"},
		{"in 1 regs 2 | r1 = r0 * 4 | r1 = r1 / 2 | r1 = r1 / -2 | out r1", "in 1 regs 2 | r1 = r0 << 1 | r1 = r1 / -2 | out r1"},
		{"in 1 regs 1 | out r0", "in 1 regs 1 | out r0"},
		{"in 3 regs 128 | out r127 r0 r127", "in 3 regs 128 | out r127 r0 r127"},
		{"in 1 regs 2 | r0 = r0 | r1 = r1 * 1 | r1 = r1 / 1 | out r1", "in 1 regs 2 | out r1"},
		{"in 1 regs 2 | r1 = r0 | r1 = r1 | out r1", "in 1 regs 2 | r1 = r0 | out r1"},
		{"in 1 regs 2 | r1 = r0 | r0 = r1 | out r1", "in 1 regs 2 | r1 = r0 | r0 = r1 | out r1"},
		{"in 1 regs 2 | r1 = r0 << 3 | r1 = r1 | r1 = r1 >> 3 | out r1", "in 1 regs 2 | r1 = r0 | out r1"},
		{"in 2 regs 2 | r1 = r0 + r1 | r1 = -r1 | r1 = -r1 | r1 = r1 * 1 | out r1", "in 2 regs 2 | r1 = r0 + r1 | out r1"},
		{"in 2 regs 2 | r1 = r0 - r1 | r1 = -r1 | r1 = r1 * -3 | r1 = r1 / 3 | r1 = r1 + r1 | out r1", "in 2 regs 2 | r1 = r0 - r1 | r1 = r1 << 1 | out r1"},
		{"in 2 regs 2 | r0 = r0 / 2 | r0 = r0 * 2 | out r0", "in 2 regs 2 | r0 = r0 >> 1 | r0 = r0 << 1 | out r0"},
		{"in 2 regs 2 | r0 = r0 / 3 | r0 = r0 * 3 | out r0", "in 2 regs 2 | r0 = r0 / 3 | r0 = r0 * 3 | out r0"},
		{"in 2 regs 2 | r0 = r0 * 2 | r1 = r1 * 3 | r0 = r0 / 2 | out r0", "in 2 regs 2 | r0 = r0 << 1 | r1 = r1 * 3 | r0 = r0 >> 1 | out r0"},
		{"in 2 regs 2 | r0 = r0 * 2 | r1 = -r1 | r1 = -r1 | r0 = r0 / 2 | out r0", "in 2 regs 2 | out r0"},
		{"in 2 regs 3 | r2 = r0 + r0 | r2 = r2 + r2 | r2 = r2 + r2 | r2 = r2 + r1 | out r2", "in 2 regs 3 | r2 = r0 << 3 | r2 = r2 + r1 | out r2"},
		{"in 1 regs 1 | r0 = r0 << 64 | r0 = r0 << 1 | r0 = r0 >> 3 | out r0", "in 1 regs 1 | r0 = r0 << 62 | out r0"},
		{"in 1 regs 2 | r1 = r0 * 170 | r1 = r1 * 27 | r1 = r1 * 20 | r1 = r1 / 180 | out r1", "in 1 regs 2 | r1 = r0 * 510 | out r1"},
		{"in 1 regs 2 | r1 = r0 * 300 | r1 = r1 * 3 | out r1", "in 1 regs 2 | r1 = r0 * 300 | r1 = r1 * 3 | out r1"},
		{"in 1 regs 2 | r0 = -r0 | r0 = r0 << 2 | r0 = r0 / -4 | r0 = -r0 | out r1", "in 1 regs 2 | r0 = -r0 | out r1"},
		{"in 1 regs 2 | r0 = -r0 | r0 = r0 << 2 | r0 = r0 / -4 | r0 = -r0 | r0 = r0 * -1 | out r1", "in 1 regs 2 | out r1"},
	} {
		p, want := read(t, x[0]), read(t, x[1])
		if q := passed(t, p); !alike(q, want) {
			t.Errorf("Pass of %s: %s, not %s", x[0], show(q), x[1])
		}
	}
}

// P13.3, R2: ErrProg of programs that may not be, and nothing beside it.
func TestPassOfNone(t *testing.T) {
	for _, p := range wrong() {
		if q, e := fold.Pass(p); e != api.ErrProg || !alike(q, api.Prog{}) {
			t.Errorf("Pass of %s: %s, %v", show(p), show(q), e)
		}
	}
}

// P13.3: what the pass makes of programs drawn at random is what its words say.
func TestPassMany(t *testing.T) {
	m := melter(table())
	cascades := map[int]int{} // how many programs have an instruction that melts so often
	for _, p := range some(6000) {
		want, most := m.passOf(p)
		if q := passed(t, p); !alike(q, want) {
			t.Fatalf("Pass of %s: %s, not %s", show(p), show(q), show(want))
		}
		cascades[most]++
	}
	if cascades[0] < 300 || cascades[1] < 3000 || cascades[2] < 300 || cascades[3] < 10 {
		t.Errorf("so many melt so often: %v", cascades)
	}
}

// P13.3: every two instructions, each with constants at which something turns, on the same register and on others.
func TestPassPairs(t *testing.T) {
	m := melter(table())
	var l []api.Instr
	for op := move; op <= shr; op++ {
		for _, c := range edges(op) {
			for _, regs := range [][2]int{{0, 0}, {0, 1}, {1, 0}, {1, 1}} {
				l = append(l, in(op, regs[0], regs[1], 0, c))
				if op == add || op == sub {
					l = append(l, in(op, regs[0], regs[1], 1, c))
				}
			}
		}
	}
	for _, a := range l {
		for _, b := range l {
			p := alone(a, b)
			if q, want := passed(t, p), first(m.passOf(p)); !alike(q, want) {
				t.Errorf("Pass of %s: %s, not %s", show(p), show(q), show(want))
			}
		}
	}
}

// first is the program of two results.
func first(p api.Prog, _ int) api.Prog { return p }

// P13.3: as many instructions as may be, which melt one by one, all of them, or none.
func TestPassLong(t *testing.T) {
	half := mostCode / 2
	up, down, flip := in(shl, 0, 0, 0, 64), in(shr, 0, 0, 0, 64), in(neg, 0, 0, 0, 0)
	tower := append(times(half, up), times(half, down)...)
	for _, x := range []struct{ code, want []api.Instr }{
		{tower, nil},
		{tower[1:], times(1, down)},
		{tower[:mostCode-1], times(1, up)},
		{append(times(half, down), times(half, up)...), append(times(half, down), times(half, up)...)},
		{times(mostCode, flip), nil},
		{times(mostCode-1, flip), times(1, flip)},
		{times(mostCode, in(move, 0, 0, 0, 0)), nil},
		{times(mostCode, in(move, 1, 0, 0, 0)), times(mostCode, in(move, 1, 0, 0, 0))},
		{times(mostCode, in(add, 0, 0, 0, 0)), times(mostCode/64, up)},
		{times(mostCode, in(add, 0, 0, 1, 0)), times(mostCode, in(add, 0, 0, 1, 0))},
		{times(mostCode, in(mul, 0, 0, 0, 512)), append(times(mostCode/7, in(shl, 0, 0, 0, 63)), in(shl, 0, 0, 0, 36))},
		{times(mostCode, in(div, 0, 0, 0, -3)), append(times(mostCode/5, in(div, 0, 0, 0, -243)), in(div, 0, 0, 0, 81))},
	} {
		p, want := alone(x.code...), alone(x.want...)
		if q := passed(t, p); !alike(q, want) {
			t.Errorf("Pass of %s: %s, not %s", show(p), show(q), show(want))
		}
	}
}

// P13.3: Ins, Regs and Outs stay, whatever the instructions are.
func TestPassKeeps(t *testing.T) {
	for _, p := range some(300) {
		q := passed(t, p)
		if q.Ins != p.Ins || q.Regs != p.Regs || !slices.Equal(q.Outs, p.Outs) {
			t.Errorf("Pass of %s: %s", show(p), show(q))
		}
	}
	wide := api.Prog{Ins: 128, Regs: 128, Code: times(5, in(mul, 127, 127, 0, 3)), Outs: make([]int, 128)}
	for k := range wide.Outs {
		wide.Outs[k] = 127 - k
	}
	if q := passed(t, wide); q.Ins != 128 || q.Regs != 128 || !slices.Equal(q.Outs, wide.Outs) || !slices.Equal(q.Code, []api.Instr{in(mul, 127, 127, 0, 243)}) {
		t.Errorf("Pass of %s: %s", show(wide), show(q))
	}
}

// P13.5: no more instructions, Muls or Divs; each is plain and does something; no two melt; the pass of it is it again.
func TestNoMore(t *testing.T) {
	for _, p := range some(4000) {
		q := passed(t, p)
		if k, e := prog.Check(q); k != 0 || e != api.OK {
			t.Fatalf("Pass of %s: %s, which may not be: %d, %v", show(p), show(q), k, e)
		}
		was, _ := prog.Count(p)
		now, _ := prog.Count(q)
		if len(q.Code) > len(p.Code) || now.Muls > was.Muls || now.Divs > was.Divs {
			t.Errorf("Pass of %s: %s has more", show(p), show(q))
		}
		for k, i := range q.Code {
			if form, turned := fold.Plain(i); form != i || turned || i.Op == move && i.To == i.A {
				t.Errorf("Pass of %s: %v is not plain, or does nothing", show(p), i)
			}
			if k > 0 {
				if one, ok := fold.Melt(q.Code[k-1], i); ok {
					t.Errorf("Pass of %s: %v and %v melt to %v", show(p), q.Code[k-1], i, one)
				}
			}
		}
		if again := passed(t, q); !alike(again, q) {
			t.Errorf("Pass of %s: %s, and of that: %s", show(p), show(q), show(again))
		}
	}
}
