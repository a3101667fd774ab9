package eval_test

import (
	"slices"
	"testing"

	"swage/api"
	"swage/eval"
	"swage/prog"
)

// P11.3: the chapter's examples, and others written out.
func TestEvaluates(t *testing.T) {
	const p = "in 2 regs 3 | r2 = r0 + r1 | out r0 r2 r1"
	for _, x := range []struct {
		text string
		k    int
		l    string
		want bool
	}{
		{p, 2, "0 1 inf", true}, {p, 2, "0 inf 1", false}, {p, 2, "0 1 -1", false},
		{"in 2 regs 3 | r2 = r0 + r1 | r2 = r2 / 1 | out r0 r2 r1", 2, "0 1 inf", false},
		{p, 2, "1 0 inf", false}, {p, 2, "inf 1 0", false}, {p, 2, "(0:-1) 1 inf", false}, {p, 2, "0 (-1:-1) inf", false}, {p, 2, "0 1 (-1:0)", false}, {p, 2, "0 (2:2) inf", false}, {p, 2, "0 (0:0) inf", false},
		{p, 2, "0 1", false}, {p, 2, "0", false}, {p, 2, "0 1 inf 0", false}, {p, 2, "0 1 inf inf", false}, {p, 1, "0 1 inf", false}, {p, 3, "0 1 inf", false}, {p, 8, "0 1 inf", false}, {p, 1, "0", false},
		{"in 2 regs 3 | r2 = r0 + r1 | out r1 r2 r0", 2, "inf 1 0", true}, {"in 2 regs 3 | r2 = r0 + r1 | out r0 r2", 2, "0 1", true}, {"in 2 regs 3 | r2 = r0 + r1 | out r2 r0 r2 r2", 2, "1 0 1 1", true},
		{"in 1 regs 1 | out r0", 1, "0", true}, {"in 1 regs 1 | out r0", 1, "(0:0)", true}, {"in 1 regs 1 | out r0 r0 r0", 1, "(0:0) -7/3 inf", true}, {"in 1 regs 2 | out r1", 1, "(0:0)", false}, {"in 1 regs 1 | r0 = -r0 | out r0", 1, "-1", false}, {"in 2 regs 2 | out r0", 1, "0", false},
		{"in 2 regs 3 | out r2", 2, "(0:0)", true}, {"in 2 regs 2 | r0 = r0 - r0 | out r0", 2, "(0:0)", true}, {"in 2 regs 3 | out r2 r0", 2, "(0:0) (0:0)", false},
		{"in 2 regs 2 | r0 = r0 - r1 | out r0", 2, "-1", true}, {"in 2 regs 2 | r0 = r1 - r0 | out r0", 2, "-1", false}, {"in 2 regs 2 | r0 = r1 - r0 | out r0", 2, "(1:-1)", true}, {"in 2 regs 2 | r0 = r0 + r1 | r0 = -r0 | out r0", 2, "(-1:-1)", true},
		{"in 3 regs 3 | r1 = r1 * 2 | r2 = r2 << 2 | r0 = r0 + r1 | r0 = r0 + r2 | out r0", 3, "2", true}, {"in 3 regs 3 | r1 = r1 * 2 | r2 = r2 << 1 | r0 = r0 + r1 | r0 = r0 + r2 | out r0", 3, "2", false}, {"in 3 regs 3 | r1 = r1 * 2 | r0 = r0 << 2 | r0 = r0 + r1 | r0 = r0 + r2 | out r0", 3, "1/2", true}, {"in 3 regs 3 | r1 = r1 * 2 | r0 = r0 << 2 | r0 = r0 + r1 | r0 = r0 + r2 | out r0", 3, "2", false},
		{"in 4 regs 4 | r3 = r3 * 512 | r2 = r2 << 6 | r1 = r1 * 8 | r3 = r3 + r2 | r3 = r3 + r1 | r3 = r3 + r0 | out r3", 4, "8", true}, {"in 4 regs 4 | r3 = r3 * -512 | r2 = r2 << 6 | r1 = r1 * -8 | r3 = r3 + r2 | r3 = r3 + r1 | r3 = r3 + r0 | out r3", 4, "-8", true},
		{"in 2 regs 2 | r0 = r1 | out r0 r1", 2, "inf inf", true}, {"in 2 regs 2 | r0 = r1 | out r0 r1", 2, "0 inf", false}, {"in 2 regs 4 | r3 = r0 << 64 | r2 = r3 - r3 | r3 = r0 * -512 | out r0", 2, "0", true},
	} {
		if is, e := eval.Evaluates(read(t, x.text), x.k, points(t, x.l)); is != x.want || e != api.OK {
			t.Errorf("Evaluates of %s, %d at %s: %v, %v", x.text, x.k, x.l, is, e)
		}
	}
}

// P11.3: what divides does not evaluate, though it divides by 1, leaves nothing over, or is asked by nobody; without it the program does.
func TestEvaluatesDivides(t *testing.T) {
	l := points(t, "0 1 inf")
	if is, e := eval.Evaluates(karatsuba(), 2, l); !is || e != api.OK {
		t.Fatalf("Evaluates: %v, %v", is, e)
	}
	for _, code := range [][]api.Instr{
		{in(div, 2, 2, 0, 1)}, {in(div, 2, 2, 0, -1), in(neg, 2, 2, 0, 0)}, {in(mul, 2, 2, 0, 6), in(div, 2, 2, 0, 6)}, {in(shl, 2, 2, 0, 1), in(shr, 2, 2, 0, 1)}, {in(shl, 0, 0, 0, 64), in(shr, 0, 0, 0, 64)}, {in(shl, 1, 1, 0, 2), in(div, 1, 1, 0, 4)},
		{in(shr, 3, 3, 0, 5)}, {in(div, 3, 3, 0, 7)}, {in(div, 3, 2, 0, 1)}, {in(div, 3, 2, 0, 2)}, {in(shr, 3, 2, 0, 1)}, {in(shr, 0, 0, 0, 1)},
	} {
		p := karatsuba()
		p.Regs = 4
		for _, q := range [][]api.Instr{slices.Concat(p.Code, code), slices.Concat(p.Code, code, []api.Instr{in(move, 3, 0, 0, 0)}), slices.Concat(code, p.Code)} {
			p.Code = q
			if is, e := eval.Evaluates(p, 2, l); is || e != api.OK {
				t.Errorf("Evaluates of %s: %v, %v", show(p), is, e)
			}
		}
	}
}

// P11.3: each number of inputs, of outs, of coefficients and of points.
func TestEvaluatesCounts(t *testing.T) {
	for ins := 1; ins <= mostParts+1; ins++ {
		for outs := 1; outs <= mostPoints+1; outs++ {
			p := api.Prog{Ins: ins, Regs: ins, Outs: make([]int, outs)}
			for k := 1; k <= mostParts; k++ {
				for n := 1; n <= mostPoints; n++ {
					l := slices.Repeat([]api.Point{at(0, 1)}, n)
					if is, e := eval.Evaluates(p, k, l); is != (ins == k && outs == n) || e != api.OK {
						t.Errorf("%d inputs, %d outs, of %d at %d points: %v, %v", ins, outs, k, n, is, e)
					}
				}
			}
		}
	}
	p := api.Prog{Ins: mostRegs, Regs: mostRegs, Outs: make([]int, mostRegs)}
	if is, e := eval.Evaluates(p, mostParts, make([]api.Point, mostPoints)); is || e != api.OK {
		t.Errorf("as many inputs and outs as may be: %v, %v", is, e)
	}
}

// changed is a program with one thing changed, which may be, or not.
func changed(m *maker, p api.Prog) api.Prog {
	q := prog.Copy(p)
	some, to := m.below(len(q.Code)+1)-1, m.below(q.Regs)
	switch {
	case some < 0 || m.below(6) == 0:
		q.Outs[m.below(len(q.Outs))] = to
	case m.below(4) == 0:
		q.Code[some].To = to
	case m.below(3) == 0:
		q.Code[some].A = to
	case m.below(3) == 0:
		q.Code = slices.Delete(q.Code, some, some+1)
	case m.below(2) == 0:
		q.Code[some].Op = 1 + m.below(8)
	default:
		q.Code[some].C += m.below(3) - 1
	}
	return q
}

// P11.3: programs with one thing changed, and held against other points, are judged as the chapter's words say.
func TestEvaluatesChanged(t *testing.T) {
	m := maker(31)
	judged := map[bool]int{}
	compare := func(p api.Prog, k int, l []api.Point) {
		t.Helper()
		want, errno := false, api.ErrProg
		if _, e := prog.Check(p); e == api.OK {
			want, errno = verdict(p, k, l), api.OK
		}
		judged[want]++
		if is, e := eval.Evaluates(p, k, l); is != want || e != errno {
			t.Errorf("Evaluates of %s, %d at %v: %v, %v, not %v, %v", show(p), k, l, is, e, want, errno)
		}
	}
	for n := range 4000 {
		k, l := 1+n%mostParts, m.points(1+m.below(4))
		p, _ := eval.Program(k, l)
		compare(changed(&m, p), k, l)
		other := slices.Clone(l)
		other[m.below(len(l))] = m.points(1)[0]
		compare(p, k, other)
		slices.Reverse(other)
		compare(p, k, other)
		p.Code = append(p.Code, in(move, m.below(p.Regs), m.below(p.Regs), 0, 0))
		compare(p, k, l)
	}
	if judged[true] < 500 || judged[false] < 500 {
		t.Errorf("%v", judged)
	}
}

// P11.3: a value that is wrong at one coefficient alone, at any place, by 1 or by its sign.
func TestEvaluatesEachPlace(t *testing.T) {
	l := points(t, "2 -3/2 inf 0 1/16")
	for k := 1; k <= mostParts; k++ {
		p, _ := eval.Program(k, l)
		for i := range l {
			for j := range k {
				for _, op := range []int{add, sub} {
					q := prog.Copy(p)
					q.Regs++ // one that is set for this out alone, which may name an input
					q.Code = append(q.Code, in(op, p.Regs, q.Outs[i], j, 0))
					q.Outs[i] = p.Regs
					if is, e := eval.Evaluates(q, k, l); is || e != api.OK {
						t.Errorf("%d, the out %d, the coefficient %d: %v, %v", k, i, j, is, e)
					}
				}
			}
		}
	}
}

// P11.3: as many registers and instructions as may be.
func TestEvaluatesLong(t *testing.T) {
	p := api.Prog{Ins: 2, Regs: mostRegs, Code: slices.Repeat([]api.Instr{in(neg, 1, 1, 0, 0)}, mostCode), Outs: []int{1}}
	for _, want := range []bool{true, false} {
		if is, e := eval.Evaluates(p, 2, []api.Point{at(1, 0)}); is != want || e != api.OK {
			t.Errorf("Evaluates: %v, %v", is, e)
		}
		p.Code = p.Code[1:]
	}
	p.Code = append(slices.Repeat([]api.Instr{in(add, 0, 0, 0, 0)}, mostCode-1), in(sub, 0, 0, 0, 0)) // wide on the way, and nothing at the end
	for _, q := range []api.Point{at(0, 0), at(0, 1)} {
		p.Outs = []int{0}
		if is, e := eval.Evaluates(p, 2, []api.Point{q}); is != (q == at(0, 0)) || e != api.OK {
			t.Errorf("Evaluates at %v: %v, %v", q, is, e)
		}
	}
}

// P11.3: ErrProg of a program that may not be, whatever k and the points are that are asked rightly.
func TestEvaluatesProg(t *testing.T) {
	for _, p := range wrong() {
		for k := 1; k <= mostParts; k++ {
			for _, l := range [][]api.Point{points(t, "0 1 inf"), points(t, "0"), make([]api.Point, mostPoints)} {
				if is, e := eval.Evaluates(p, k, l); is || e != api.ErrProg {
					t.Errorf("Evaluates of %s, %d at %v: %v, %v", show(p), k, l, is, e)
				}
			}
		}
	}
}

// P11.3, R2: ErrArg of k and points that are not asked rightly, ahead of what the program is.
func TestEvaluatesArg(t *testing.T) {
	refused := func(p api.Prog, k int, l []api.Point) {
		t.Helper()
		if is, e := eval.Evaluates(p, k, l); is || e != api.ErrArg {
			t.Errorf("Evaluates of %s, %d at %d points, %v: %v, %v", show(p), k, len(l), l[:min(len(l), 3)], is, e)
		}
	}
	nine := api.Prog{Ins: 9, Regs: 9, Outs: []int{0}}
	sixteen := api.Prog{Ins: 2, Regs: 3, Outs: slices.Repeat([]int{2}, mostPoints+1)}
	for _, p := range append(wrong(), karatsuba(), nine, sixteen) {
		for _, k := range append(wrongCounts(), p.Ins) {
			if k >= 1 && k <= mostParts {
				continue
			}
			for _, l := range [][]api.Point{points(t, "0 1 inf"), points(t, "0"), nil, {at(17, 1)}} {
				refused(p, k, l)
			}
		}
		for _, l := range wrongPoints() {
			refused(p, 2, l)
		}
	}
}
