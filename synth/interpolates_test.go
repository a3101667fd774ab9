package synth_test

import (
	"slices"
	"testing"

	"swage/api"
	"swage/exact"
	"swage/prog"
	"swage/synth"
)

// P12.5: the chapter's examples, and others written out.
func TestInterpolates(t *testing.T) {
	const p = "in 3 regs 3 | r1 = r1 - r0 | r1 = r1 - r2 | out r0 r1 r2"
	const q = "in 3 regs 4 | r3 = r1 - r2 | r3 = r3 / 2 | r1 = r1 + r2 | r1 = r1 >> 1 | r1 = r1 - r0 | out r0 r3 r1"
	for _, x := range []struct {
		text, l string
		want    bool
	}{
		{p, "0 1 inf", true}, {p, "0 -1 inf", false}, {p, "inf 1 0", false}, {"in 3 regs 3 | r1 = r1 - r0 | r1 = r1 - r2 | out r2 r1 r0", "inf 1 0", true}, {p, "1 0 inf", false}, {p, "0 1 -1", false}, {p, "0 1", false}, {p, "0", false}, {p, "0 1 inf -1", false}, {p, "0 (2:2) inf", false}, {p, "0 (-1:-1) inf", true}, {p, "(0:-1) 1 (-1:0)", true}, {p, "0 1 (2:0)", false},
		{q, "0 1 -1", true}, {q, "0 -1 1", false}, {q, "0 1 inf", false}, {q, "0 2 -2", false}, {q, "0 (-1:-1) (1:-1)", true},
		{"in 1 regs 1 | out r0", "0", true}, {"in 1 regs 1 | out r0", "inf", true}, {"in 1 regs 1 | out r0", "(-16:12)", true}, {"in 1 regs 2 | out r1", "0", false}, {"in 1 regs 1 | r0 = -r0 | out r0", "0", false}, {"in 1 regs 1 | r0 = -r0 | out r0", "-1", false}, {"in 1 regs 1 | out r0 r0", "0", false}, {"in 1 regs 1 | out r0 r0", "0 inf", false}, {"in 2 regs 2 | out r0", "0", false},
		{"in 2 regs 2 | out r0 r1", "0 inf", true}, {"in 2 regs 2 | out r1 r0", "0 inf", false}, {"in 2 regs 2 | out r1 r0", "inf 0", true}, {"in 2 regs 2 | out r0 r0", "0 inf", false}, {"in 2 regs 2 | out r0", "0 inf", false}, {"in 2 regs 2 | out r0 r1 r1", "0 inf", false},
		{"in 2 regs 2 | out r0 r1", "(0:-1) inf", false}, {"in 2 regs 2 | r0 = -r0 | out r0 r1", "(0:-1) inf", true}, {"in 2 regs 2 | r0 = r0 / -3 | out r0 r1", "(0:-3) inf", true}, {"in 2 regs 2 | r0 = r0 / 3 | out r0 r1", "(0:-3) inf", false}, {"in 2 regs 2 | r0 = r0 >> 4 | r1 = r1 / 16 | out r0 r1", "(0:16) (16:0)", true}, {"in 2 regs 2 | r0 = r0 >> 5 | r1 = r1 / 16 | out r0 r1", "(0:16) (16:0)", false},
		{"in 2 regs 2 | r1 = r1 - r0 | out r0 r1", "0 1", true}, {"in 2 regs 2 | r1 = r0 - r1 | out r0 r1", "0 -1", true}, {"in 2 regs 2 | r1 = r1 - r0 | out r0 r1", "0 -1", false}, {"in 2 regs 3 | r1 = r1 - r0 | r1 = r1 >> 1 | out r0 r1", "0 2", true}, {"in 2 regs 3 | r1 = r1 - r0 | r1 = r1 >> 1 | out r0 r2", "0 2", false},
	} {
		if is, e := synth.Interpolates(read(t, x.text), points(t, x.l)); is != x.want || e != api.OK {
			t.Errorf("Interpolates of %s at %s: %v, %v", x.text, x.l, is, e)
		}
	}
}

// P12.5: what answers the coefficients, taken as fractions, or on some of the values, but has a division that leaves a remainder on others, asked by someone or not.
func TestInterpolatesFails(t *testing.T) {
	for _, x := range []struct {
		text, l string
		want    bool
	}{
		{"in 2 regs 3 | r2 = r1 >> 1 | out r0 r1", "0 inf", false}, {"in 2 regs 3 | r2 = r1 / 1 | out r0 r1", "0 inf", true}, {"in 2 regs 3 | r2 = r2 / 7 | out r0 r1", "0 inf", true}, {"in 2 regs 3 | r0 = r0 / 3 | r0 = r0 * 3 | out r0 r1", "0 inf", false}, {"in 2 regs 3 | r0 = r0 * 3 | r0 = r0 / 3 | out r0 r1", "0 inf", true}, {"in 2 regs 3 | r0 = r0 * -512 | r0 = r0 / -512 | out r0 r1", "0 inf", true}, {"in 2 regs 3 | r0 = r0 << 64 | r0 = r0 >> 64 | out r0 r1", "0 inf", true},
		{"in 3 regs 3 | r1 = r1 - r0 | r1 = r1 - r2 | r0 = r0 >> 1 | r0 = r0 << 1 | out r0 r1 r2", "0 1 inf", false}, {"in 3 regs 3 | r1 = r1 - r0 | r1 = r1 - r2 | r0 = r0 << 1 | r0 = r0 >> 1 | out r0 r1 r2", "0 1 inf", true},
		{"in 3 regs 5 | r1 = r1 >> 1 | r2 = r2 >> 1 | r3 = r1 - r2 | r1 = r1 + r2 | r1 = r1 - r0 | out r0 r3 r1", "0 1 -1", false}, {"in 3 regs 5 | r3 = r1 - r2 | r4 = r3 >> 2 | r3 = r3 >> 1 | r1 = r1 + r2 | r1 = r1 >> 1 | r1 = r1 - r0 | out r0 r3 r1", "0 1 -1", false}, {"in 3 regs 5 | r3 = r1 - r2 | r4 = r3 / -2 | r3 = r3 >> 1 | r1 = r1 + r2 | r1 = r1 >> 1 | r1 = r1 - r0 | out r0 r3 r1", "0 1 -1", true},
	} {
		if is, e := synth.Interpolates(read(t, x.text), points(t, x.l)); is != x.want || e != api.OK {
			t.Errorf("Interpolates of %s at %s: %v, %v", x.text, x.l, is, e)
		}
	}
	m := maker(41)
	for _, l := range m.lists(6) {
		p := program(t, l)
		p.Regs++ // one that nobody asks
		for _, last := range []api.Instr{in(shr, p.Regs-1, p.Outs[m.below(len(l))], 0, 1), in(div, p.Regs-1, p.Outs[m.below(len(l))], 0, -3)} {
			q := prog.Copy(p)
			q.Code = append(q.Code, last)
			grid, _ := synth.Grid(l)
			if _, e := exact.Judge(q, grid); e != api.ErrExact {
				t.Fatalf("Judge of %s: %v", show(q), e)
			}
			if is, e := synth.Interpolates(q, l); is || e != api.OK {
				t.Errorf("Interpolates of %s at %v: %v, %v", show(q), l, is, e)
			}
		}
	}
}

// P12.5: each number of inputs and outs, held against each number of points.
func TestInterpolatesCounts(t *testing.T) {
	for n := 1; n <= mostPoints; n++ {
		l := norms()[:n]
		p := program(t, l)
		for _, ins := range []int{n - 1, n, n + 1, p.Regs} {
			for outs := 1; outs <= mostPoints+1; outs++ {
				q := prog.Copy(p)
				q.Ins, q.Regs, q.Outs = ins, max(ins, q.Regs), slices.Repeat(q.Outs, mostPoints+1)[:outs]
				want, errno := ins == n && outs == n, api.OK
				if ins == 0 {
					want, errno = false, api.ErrProg
				}
				if is, e := synth.Interpolates(q, l); is != want || e != errno {
					t.Errorf("%d inputs, %d outs, at %d points: %v, %v", ins, len(q.Outs), n, is, e)
				}
			}
		}
		for k := 1; k <= mostPoints; k++ {
			if is, e := synth.Interpolates(p, norms()[:k]); is != (k == n) || e != api.OK {
				t.Errorf("the program of %d points at %d: %v, %v", n, k, is, e)
			}
		}
	}
	p := api.Prog{Ins: mostRegs, Regs: mostRegs, Outs: make([]int, mostRegs)}
	if is, e := synth.Interpolates(p, norms()[:mostPoints]); is || e != api.OK {
		t.Errorf("as many inputs and outs as may be: %v, %v", is, e)
	}
}

// changed is a program with one thing changed, which may be, or not.
func changed(m *maker, p api.Prog) api.Prog {
	q := prog.Copy(p)
	some, to := m.below(len(q.Code)+1)-1, m.below(q.Regs)
	switch {
	case some < 0 || m.below(6) == 0:
		q.Outs[m.below(len(q.Outs))] = to
	case m.below(5) == 0:
		q.Code[some].To = to
	case m.below(4) == 0:
		q.Code[some].A = to
	case m.below(4) == 0:
		q.Code = slices.Delete(q.Code, some, some+1)
	case m.below(3) == 0:
		q.Code[some].Op = 1 + m.below(8)
	case m.below(2) == 0:
		q.Code = slices.Insert(q.Code, some, in(move, to, m.below(q.Regs), 0, 0))
	default:
		q.Code[some].C += m.below(3) - 1
	}
	return q
}

// P12.5: programs with one thing changed, and held against other points, are judged as the chapter's words say.
func TestInterpolatesChanged(t *testing.T) {
	m := maker(42)
	judged := map[bool]int{}
	compare := func(p api.Prog, l []api.Point) {
		t.Helper()
		want, errno := false, api.ErrProg
		if _, e := prog.Check(p); e == api.OK {
			want, errno = verdict(p, l), api.OK
		}
		judged[want]++
		if is, e := synth.Interpolates(p, l); is != want || e != errno {
			t.Errorf("Interpolates of %s at %v: %v, %v, not %v, %v", show(p), l, is, e, want, errno)
		}
	}
	for n := range 3000 {
		l := m.points(1+n%6, []int{2, 4, mostPoint}[n%3])
		p := program(t, l)
		compare(p, l)
		compare(changed(&m, p), l)
		other := slices.Clone(l)
		other[m.below(len(l))] = m.points(1, mostPoint)[0]
		if synth.Right(other) {
			compare(p, other)
		}
		slices.Reverse(l)
		compare(p, l)
		i := m.below(len(l))
		l[i] = at(-l[i].A, -l[i].B)
		compare(p, l)
	}
	if judged[true] < 500 || judged[false] < 500 {
		t.Errorf("%v", judged)
	}
}

// P12.5: an out that is wrong in one column alone, by 1 either way, at any place; an out turned about with another.
func TestInterpolatesEachPlace(t *testing.T) {
	for _, s := range []string{"0", "0 inf", "0 1 inf", "1/2 2/3 -5/7 (4:2) (-3:0)", "0 1 -1 2 -2 1/2 inf"} {
		l := points(t, s)
		p := program(t, l)
		for i := range l {
			for j := range l {
				for _, op := range []int{add, sub} {
					q := prog.Copy(p)
					q.Regs++ // one that is set for this out alone
					q.Code = append(q.Code, in(op, p.Regs, q.Outs[i], q.Outs[j], 0))
					q.Outs[i] = p.Regs
					if is, e := synth.Interpolates(q, l); is || e != api.OK {
						t.Errorf("%s, the out %d, the column %d: %v, %v", s, i, j, is, e)
					}
				}
				q := prog.Copy(p)
				q.Outs[i], q.Outs[j] = q.Outs[j], q.Outs[i]
				if is, e := synth.Interpolates(q, l); is != (i == j) || e != api.OK {
					t.Errorf("%s, the outs %d and %d turned about: %v, %v", s, i, j, is, e)
				}
			}
		}
	}
}

// P12.5: as many registers and instructions as may be.
func TestInterpolatesLong(t *testing.T) {
	p := api.Prog{Ins: 2, Regs: mostRegs, Code: slices.Repeat([]api.Instr{in(neg, 1, 1, 0, 0)}, mostCode), Outs: []int{0, 1}}
	for _, want := range []bool{true, false} {
		if is, e := synth.Interpolates(p, points(t, "0 inf")); is != want || e != api.OK {
			t.Errorf("Interpolates: %v, %v", is, e)
		}
		p.Code = p.Code[1:]
	}
	p.Code = append(slices.Repeat([]api.Instr{in(add, 127, 0, 1, 0), in(mul, 126, 127, 0, -512)}, mostCode/2-1), in(shr, 126, 126, 0, 9))
	if is, e := synth.Interpolates(p, points(t, "0 inf")); !is || e != api.OK {
		t.Errorf("Interpolates: %v, %v", is, e)
	}
	p.Code = append(p.Code, in(shr, 126, 126, 0, 1))
	if is, e := synth.Interpolates(p, points(t, "0 inf")); is || e != api.OK {
		t.Errorf("Interpolates: %v, %v", is, e)
	}
}

// P12.5: ErrProg of a program that may not be, at whatever points are right.
func TestInterpolatesProg(t *testing.T) {
	m := maker(43)
	for _, p := range wrong() {
		for _, l := range append(m.lists(1), points(t, "0 1 inf")) {
			if is, e := synth.Interpolates(p, l); is || e != api.ErrProg {
				t.Errorf("Interpolates of %s at %v: %v, %v", show(p), l, is, e)
			}
		}
	}
}

// P12.5, R2: ErrArg of points that are not right, ahead of what the program is.
func TestInterpolatesArg(t *testing.T) {
	one := api.Prog{Ins: 1, Regs: 1, Outs: []int{0}}
	two := api.Prog{Ins: 2, Regs: 2, Outs: []int{0, 1}}
	sixteen := api.Prog{Ins: 16, Regs: 16, Outs: rising(16)}
	lists, programs := wrongPoints(), wrong()
	for k, l := range lists {
		for _, p := range []api.Prog{one, two, sixteen, karatsuba(), programs[k%len(programs)]} {
			if is, e := synth.Interpolates(p, l); is || e != api.ErrArg {
				t.Errorf("Interpolates of %s at %v: %v, %v", show(p), l[:min(len(l), 20)], is, e)
			}
		}
	}
	for _, p := range programs {
		for _, l := range lists[:20] {
			if is, e := synth.Interpolates(p, l); is || e != api.ErrArg {
				t.Errorf("Interpolates of %s at %v: %v, %v", show(p), l[:min(len(l), 20)], is, e)
			}
		}
	}
}
