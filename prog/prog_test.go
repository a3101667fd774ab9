package prog_test

import (
	"math"
	"slices"
	"testing"

	"swage/api"
	"swage/prog"
)

// judged asks what Check says of a program.
func judged(t *testing.T, p api.Prog, number int, want api.Errno) {
	t.Helper()
	if k, e := prog.Check(p); k != number || e != want {
		t.Errorf("Check of %s: %d, %v, not %d, %v", show(p), k, e, number, want)
	}
}

// P8.1: the chapter's examples.
func TestCheckExamples(t *testing.T) {
	judged(t, example(), 0, api.OK)
	for _, i := range []api.Instr{in(move, 3, 0, 0, 0), in(mul, 2, 0, 0, 0)} {
		p := example()
		p.Code = append(p.Code, i)
		judged(t, p, 2, api.ErrProg)
	}
	p := example()
	p.Outs = nil
	judged(t, p, -1, api.ErrProg)
	p.Outs = []int{}
	judged(t, p, -1, api.ErrProg)
}

// P8.1: inputs, registers, and how many outs there are, all that turns something with each other.
func TestCheckCounts(t *testing.T) {
	counts := append(extremes(), 3, mostRegs-1, mostRegs, mostRegs+1)
	for _, ins := range counts {
		for _, regs := range counts {
			for _, outs := range []int{0, 1, 2, mostRegs - 1, mostRegs, mostRegs + 1, 1 << 10} {
				number, want := 0, api.OK
				if ins < 1 || ins > regs || regs > 128 || outs < 1 || outs > 128 {
					number, want = -1, api.ErrProg
				}
				judged(t, plain(ins, regs, 0, outs), number, want)
				judged(t, plain(ins, regs, 1, outs), number, want)
			}
		}
	}
	for n := 1; n <= mostRegs; n++ {
		judged(t, plain(n, n, 0, 1), 0, api.OK)
		judged(t, plain(n+1, n, 0, 1), -1, api.ErrProg)
		judged(t, plain(n, mostRegs, 0, n), 0, api.OK)
	}
}

// P8.1: how many instructions there are, and that this goes ahead of what they are.
func TestCheckCodeCounts(t *testing.T) {
	for _, n := range []int{0, 1, mostCode - 1, mostCode} {
		judged(t, plain(1, 1, n, 1), 0, api.OK)
	}
	for _, n := range []int{mostCode + 1, mostCode + 2, 2 * mostCode, 1 << 18} {
		judged(t, plain(1, 1, n, 1), -1, api.ErrProg)
		p := plain(1, 1, n, 1)
		p.Code[0].Op = 0
		judged(t, p, -1, api.ErrProg)
	}
	p := plain(1, 1, mostCode, 1)
	p.Code[mostCode-1].A = 1
	judged(t, p, mostCode-1, api.ErrProg)
	p.Code = nil
	judged(t, p, 0, api.OK)
}

// P8.1: registers among the outs, at each place of them.
func TestCheckOuts(t *testing.T) {
	for _, regs := range []int{1, 2, 3, mostRegs - 1, mostRegs} {
		for _, n := range []int{1, 2, 5, mostRegs} {
			for at := range n {
				for _, r := range append(extremes(), regs-1, regs, regs+1, -2) {
					p := plain(1, regs, 1, n)
					p.Outs[at] = r
					if r >= 0 && r < regs {
						judged(t, p, 0, api.OK)
					} else {
						judged(t, p, -1, api.ErrProg)
						p.Code[0] = api.Instr{}
						judged(t, p, -1, api.ErrProg)
					}
				}
			}
		}
	}
}

// alone is a program of one instruction.
func alone(regs int, i api.Instr) api.Prog {
	return api.Prog{Ins: 1, Regs: regs, Code: []api.Instr{i}, Outs: []int{0}}
}

// P8.1: each operation, and what is none, with each constant.
func TestCheckConstants(t *testing.T) {
	for _, op := range operations() {
		good := allowed(op)
		for _, c := range constants() {
			if good[c] {
				judged(t, alone(1, in(op, 0, 0, 0, c)), 0, api.OK)
			} else {
				judged(t, alone(1, in(op, 0, 0, 0, c)), 0, api.ErrProg)
			}
		}
	}
	for op := 0; op <= 9; op++ {
		good := allowed(op)
		for c := -mostConst - 2; c <= mostConst+2; c++ {
			if _, e := prog.Check(alone(1, in(op, 0, 0, 0, c))); (e == api.OK) != good[c] {
				t.Errorf("operation %d, constant %d: %v", op, c, e)
			}
		}
	}
}

// P8.1: each of an instruction's registers at its edges, for each operation.
func TestCheckRegisters(t *testing.T) {
	j := judge{}
	for _, regs := range []int{1, 2, 3, mostRegs - 1, mostRegs} {
		for op := move; op <= shr; op++ {
			c := map[int]int{mul: 2, div: -3, shl: 1, shr: 64}[op]
			for _, r := range append(extremes(), regs-1, regs, regs+1, -2) {
				for _, i := range []api.Instr{in(op, r, 0, 0, c), in(op, 0, r, 0, c), in(op, 0, 0, r, c), in(op, r, r, 0, c), in(op, r, r, r, c), in(op, 0, r, r, c)} {
					want := api.ErrProg
					if j.fine(i, regs) {
						want = api.OK
					}
					judged(t, alone(regs, i), 0, want)
				}
			}
		}
	}
}

// P8.1: every instruction out of small fields.
func TestCheckEvery(t *testing.T) {
	j := judge{}
	for _, op := range []int{-1, 0, move, neg, add, sub, mul, div, shl, shr, 9} {
		for to := -1; to <= 3; to++ {
			for a := -1; a <= 3; a++ {
				for b := -1; b <= 3; b++ {
					for _, c := range []int{-513, -512, -65, -64, -1, 0, 1, 64, 65, 512, 513} {
						p := alone(3, in(op, to, a, b, c))
						k, e := j.verdict(p)
						judged(t, p, k, e)
					}
				}
			}
		}
	}
}

// P8.1: the first of several instructions that may not be, at each place.
func TestCheckFirst(t *testing.T) {
	bad := []api.Instr{{}, in(9, 0, 0, 0, 0), in(move, 2, 0, 0, 0), in(neg, 0, 0, 1, 0), in(add, 0, 0, 2, 0), in(mul, 0, 0, 0, 0), in(shr, 0, 0, 0, -1)}
	for n := 1; n <= 9; n++ {
		for k := range n {
			for _, i := range bad {
				p := plain(1, 2, n, 1)
				p.Code[k] = i
				judged(t, p, k, api.ErrProg)
				for m := k + 1; m < n; m++ {
					p.Code[m] = bad[m%len(bad)]
					judged(t, p, k, api.ErrProg)
				}
				p.Ins = 3
				judged(t, p, -1, api.ErrProg)
			}
		}
	}
}

// P8.1: programs of all kinds, held against the chapter's words.
func TestCheckMany(t *testing.T) {
	j := judge{}
	for _, p := range some(400) {
		judged(t, p, 0, api.OK)
		m := maker(77 + len(p.Code))
		for range 20 {
			q := cloned(p)
			for range 1 + m.below(2) {
				edge := []int{-1, 0, 1, q.Regs - 1, q.Regs, mostShift + 1, mostConst + 1, math.MinInt}[m.below(8)]
				i := &api.Instr{}
				if len(q.Code) > 0 {
					i = &q.Code[m.below(len(q.Code))]
				}
				*[]*int{&q.Ins, &q.Regs, &q.Outs[m.below(len(q.Outs))], &i.Op, &i.To, &i.A, &i.B, &i.C, &i.A, &i.B, &i.C}[m.below(11)] = edge
			}
			k, e := j.verdict(q)
			judged(t, q, k, e)
		}
	}
	for _, p := range wrong() {
		k, e := j.verdict(p)
		judged(t, p, k, e)
		if e != api.ErrProg {
			t.Errorf("%s may be", show(p))
		}
	}
}

// P8.1, R2: what each call that tells an error answers of programs that may not be: ErrProg, and nothing beside it.
func TestMayNotBe(t *testing.T) {
	for _, p := range wrong() {
		if s, e := prog.Text(p); s != "" || e != api.ErrProg {
			t.Errorf("Text of %s: %q, %v", show(p), s, e)
		}
		if c, e := prog.Count(p); c != (prog.Counts{}) || e != api.ErrProg {
			t.Errorf("Count of %s: %v, %v", show(p), c, e)
		}
		if l, e := prog.Needed(p); len(l) != 0 || cap(l) != 0 || e != api.ErrProg {
			t.Errorf("Needed of %s: %v, %v", show(p), l, e)
		}
		if d, e := prog.Depth(p); d != 0 || e != api.ErrProg {
			t.Errorf("Depth of %s: %d, %v", show(p), d, e)
		}
		for k, i := range prog.Back(p) {
			t.Errorf("Back of %s: %d, %v", show(p), k, i)
		}
		for _, q := range []api.Prog{example(), plain(1, mostRegs, 0, 1), plain(1, 1, mostCode, 1), p, {}} {
			for _, x := range [][2]api.Prog{{p, q}, {q, p}} {
				if both, e := prog.Join(x[0], x[1]); !zero(both) || e != api.ErrProg {
					t.Errorf("Join with %s: %s, %v", show(p), show(both), e)
				}
			}
		}
	}
}

// P8.3
func TestSame(t *testing.T) {
	base := example()
	changes := []func(p *api.Prog){
		func(p *api.Prog) { p.Ins = 1 }, func(p *api.Prog) { p.Regs = 4 }, func(p *api.Prog) { p.Ins, p.Regs = 3, 2 },
		func(p *api.Prog) { p.Code[0].Op = add }, func(p *api.Prog) { p.Code[0].To = 1 }, func(p *api.Prog) { p.Code[0].A = 1 }, func(p *api.Prog) { p.Code[0].B = 0 }, func(p *api.Prog) { p.Code[0].C = 1 },
		func(p *api.Prog) { p.Code[1].Op = mul }, func(p *api.Prog) { p.Code[1].To = 0 }, func(p *api.Prog) { p.Code[1].A = 0 }, func(p *api.Prog) { p.Code[1].B = 1 }, func(p *api.Prog) { p.Code[1].C = -2 },
		func(p *api.Prog) { p.Code[0], p.Code[1] = p.Code[1], p.Code[0] }, func(p *api.Prog) { p.Code = p.Code[:1] }, func(p *api.Prog) { p.Code = p.Code[1:] }, func(p *api.Prog) { p.Code = nil }, func(p *api.Prog) { p.Code = append(p.Code, p.Code[1]) },
		func(p *api.Prog) { p.Outs[0] = 0 }, func(p *api.Prog) { p.Outs[1] = 1 }, func(p *api.Prog) { p.Outs = []int{0, 2} }, func(p *api.Prog) { p.Outs = p.Outs[:1] }, func(p *api.Prog) { p.Outs = p.Outs[1:] }, func(p *api.Prog) { p.Outs = nil }, func(p *api.Prog) { p.Outs = append(p.Outs, 0) },
	}
	if !prog.Same(base, example()) || !prog.Same(base, base) {
		t.Error("a program is not the Same as itself")
	}
	for k, f := range changes {
		p := example()
		f(&p)
		if prog.Same(base, p) || prog.Same(p, base) || !prog.Same(p, p) || !prog.Same(p, cloned(p)) {
			t.Errorf("change %d: %s", k, show(p))
		}
	}
	all := append(some(30), wrong()...)
	for _, p := range all {
		for _, q := range all {
			if got := prog.Same(p, q); got != alike(p, q) {
				t.Errorf("Same of %s and %s: %t", show(p), show(q), got)
			}
		}
	}
}

// P8.3, R3: nil and empty lists are one.
func TestSameOfEmptyLists(t *testing.T) {
	lists := []api.Prog{{Ins: 1, Regs: 1}, {Ins: 1, Regs: 1, Code: []api.Instr{}}, {Ins: 1, Regs: 1, Outs: []int{}}, {Ins: 1, Regs: 1, Code: make([]api.Instr, 0, 3), Outs: make([]int, 0, 3)}}
	for _, p := range lists {
		for _, q := range lists {
			if !prog.Same(p, q) || !prog.Same(prog.Copy(p), q) {
				t.Errorf("%s, %s", show(p), show(q))
			}
		}
	}
}

// P8.3: of programs that may not be, too.
func TestCopy(t *testing.T) {
	for _, p := range append(some(100), wrong()...) {
		was := cloned(p)
		q := prog.Copy(p)
		if !alike(p, q) || !prog.Same(p, q) {
			t.Errorf("Copy of %s: %s", show(p), show(q))
		}
		spoil(q)
		if !alike(p, was) {
			t.Errorf("written into the Copy: %s, not %s", show(p), show(was))
		}
		r := prog.Copy(was)
		spoil(was)
		if !alike(p, r) {
			t.Errorf("written into what was copied: %s, not %s", show(r), show(p))
		}
	}
}

// P8.3
func TestAsks(t *testing.T) {
	for _, op := range operations() {
		for _, a := range extremes() {
			for _, b := range extremes() {
				i := in(op, 7, a, b, 9)
				want := []int{a, b}[:asked(op)]
				got := prog.Asks(i)
				if !slices.Equal(got, want) {
					t.Errorf("Asks(%v): %v", i, got)
				}
			}
		}
	}
}

// P8.3: what an instruction asks hangs on nothing but Op, A and B.
func TestAsksAsTheyStand(t *testing.T) {
	for op := -1; op <= 10; op++ {
		for _, x := range extremes() {
			if got := prog.Asks(in(op, x, 5, 5, x)); !slices.Equal(got, []int{5, 5}[:asked(op)]) {
				t.Errorf("Asks of operation %d, %d: %v", op, x, got)
			}
		}
	}
}
