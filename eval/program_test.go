package eval_test

import (
	"fmt"
	"math"
	"math/big"
	"slices"
	"testing"

	"swage/api"
	"swage/eval"
	"swage/exact"
	"swage/prog"
)

// bounded asks that a program keeps to the bounds that P11.2 names.
func bounded(t *testing.T, p api.Prog, k int, l []api.Point) {
	t.Helper()
	if p.Regs > k+len(l)+2 {
		t.Errorf("%d at %v: %d registers", k, l, p.Regs)
	}
	if len(p.Code) > len(l)*k*(k+3)/2 {
		t.Errorf("%d at %v: %d instructions", k, l, len(p.Code))
	}
	for _, i := range p.Code {
		switch {
		case i.Op == mul && (i.C < -mostPoint || i.C > mostPoint), i.Op == shl && (i.C < 1 || i.C > 4), i.Op == div, i.Op == shr:
			t.Errorf("%d at %v: %v", k, l, i)
		}
	}
}

// made is what Program answers, which must be a program that evaluates, within the bounds.
func made(t *testing.T, k int, l []api.Point) api.Prog {
	t.Helper()
	p, e := eval.Program(k, l)
	if _, f := prog.Check(p); e != api.OK || f != api.OK {
		t.Fatalf("Program of %d at %v: %s, %v, %v", k, l, show(p), e, f)
	}
	if !verdict(p, k, l) {
		t.Errorf("Program of %d at %v does not evaluate: %s", k, l, show(p))
	}
	if is, e := eval.Evaluates(p, k, l); !is || e != api.OK {
		t.Errorf("Evaluates of Program of %d at %v: %v, %v; %s", k, l, is, e, show(p))
	}
	bounded(t, p, k, l)
	return p
}

// P11.2: every k, at each point that is in, alone.
func TestProgramEvery(t *testing.T) {
	for k := 1; k <= mostParts; k++ {
		for _, p := range every() {
			made(t, k, []api.Point{p})
		}
	}
}

// P11.2: every k, at all points that are in, as many at once as may be.
func TestProgramAll(t *testing.T) {
	for k := 1; k <= mostParts; k++ {
		for l := range slices.Chunk(every(), mostPoints) {
			made(t, k, l)
		}
	}
}

// P11.2: every k, each number of points, in any order, some of them none, some of them one, some of them the same.
func TestProgramMany(t *testing.T) {
	m := maker(21)
	for k := 1; k <= mostParts; k++ {
		for n := 1; n <= mostPoints; n++ {
			for range 12 {
				made(t, k, m.points(n))
			}
		}
	}
	for k := 1; k <= mostParts; k++ {
		for _, s := range []string{"0 1 -1 2 inf", "inf 2 -1 1 0", "(0:0)", "(0:0) (0:0) 1 (0:0)", "1 1 1", "(16:16) (-16:-16) (16:-16) (-16:16)", "1/2 -1/2 3/5 (4:8) (0:-2) (-7:0) (0:0)", "16 -16 15 1/16 -15/16 13/11 -11/13 9 8 7 6 5 4 3 2"} {
			made(t, k, points(t, s))
		}
		made(t, k, make([]api.Point, mostPoints))
		made(t, k, slices.Repeat([]api.Point{at(-13, -15)}, mostPoints))
	}
}

// P11.2, P11.4: what a program answers of one coefficient: its input, whatever the points are.
func TestProgramOfOne(t *testing.T) {
	l := points(t, "(0:0) 0 inf 1 -1 -3/16 (16:16)")
	for _, n := range []int64{0, 1, -7, math.MaxInt64} {
		for k := range l {
			if outs, _, e := exact.Run(made(t, 1, l[k:]), list(n)); !sayAll(outs, slices.Repeat([]*big.Int{big.NewInt(n)}, len(l)-k)) || e != api.OK {
				t.Errorf("%d at %v: %s, %v", n, l[k:], told(outs), e)
			}
		}
	}
}

// P11.2: the same k and points, the same program, whatever was asked between, and whatever room is behind the points.
func TestProgramSame(t *testing.T) {
	m := maker(22)
	for k := 1; k <= mostParts; k++ {
		for n := 1; n <= mostPoints; n++ {
			l := m.points(n)
			first, _ := eval.Program(k, l)
			eval.Program(mostParts, m.points(mostPoints))
			again, e := eval.Program(k, append(slices.Clone(l), m.points(9)...)[:n])
			if !prog.Same(first, again) || e != api.OK {
				t.Errorf("%d at %v: %s and %s, %v", k, l, show(first), show(again), e)
			}
		}
	}
}

// P11.2: powers of two are shifted (Ways): none is an OpMul's constant.
func TestProgramShifts(t *testing.T) {
	shifts := 0
	for _, p := range every() {
		for _, i := range made(t, mostParts, []api.Point{p}).Code {
			if i.Op == shl {
				shifts++
			}
			if i.Op == mul && slices.Contains([]int{1, 2, 4, 8, 16}, i.C) {
				t.Errorf("at %v: %v", p, i)
			}
		}
	}
	if shifts == 0 {
		t.Error("nothing is shifted")
	}
}

// Programs have no instruction in vain, and are short where a coordinate is 0, 1 or -1, whichever of both it is.
func TestProgramShort(t *testing.T) {
	for k := 1; k <= mostParts; k++ {
		for _, p := range every() {
			q := made(t, k, []api.Point{p})
			if needed, e := prog.Needed(q); slices.Contains(needed, false) || e != api.OK {
				t.Errorf("%d at %v: %s", k, p, show(q))
			}
			a, b := max(p.A, -p.A), max(p.B, -p.B)
			most := len(q.Code)
			switch {
			case a == 0 && b == 0:
				most = 0
			case a <= 1 && b <= 1, a == 0, b == 0:
				most = k
			case a == 1 || b == 1:
				most = 2*(k-1) + 1
			}
			if len(q.Code) > most {
				t.Errorf("%d at %v: %s", k, p, show(q))
			}
		}
	}
}

// P11.2: the chapter's examples of what is refused, k and points at their limits and one past them, both wrong; beside the error the zero program.
func TestProgramArg(t *testing.T) {
	refused := func(k int, l []api.Point) {
		t.Helper()
		if p, e := eval.Program(k, l); !zero(p) || e != api.ErrArg {
			t.Errorf("Program of %d at %d points, %v: %s, %v", k, len(l), l[:min(len(l), 3)], show(p), e)
		}
	}
	for _, k := range wrongCounts() {
		for _, l := range [][]api.Point{{at(0, 1)}, {at(0, 1), at(1, 1)}, {at(0, 0)}, make([]api.Point, mostPoints), nil, {at(17, 1)}, make([]api.Point, mostPoints+1)} {
			refused(k, l)
		}
	}
	for k := 1; k <= mostParts; k++ {
		for _, l := range wrongPoints() {
			refused(k, l)
		}
	}
}

// wrongCounts are numbers of coefficients that may not be.
func wrongCounts() []int {
	return []int{math.MinInt, -1 << 32, -mostParts, -2, -1, 0, mostParts + 1, mostParts + 2, 2 * mostParts, 1 << 8, 1<<8 + 1, 1<<16 + 2, 1<<32 + 1, math.MaxInt}
}

// R3: points stay as they are, and a program is new memory, the room behind its lists' ends too: writing into one changes no other.
func TestProgramLists(t *testing.T) {
	m := maker(23)
	for k := 1; k <= mostParts; k++ {
		for n := 1; n <= mostPoints; n++ {
			l := append(m.points(n), at(71, 72), at(73, 74))[:n]
			was := fmt.Sprint(len(l), l[:cap(l)])
			p, _ := eval.Program(k, l)
			want := prog.Copy(p)
			spoil(t, p)
			if again, e := eval.Program(k, l); !prog.Same(again, want) || e != api.OK {
				t.Errorf("%d at %v: %s, not %s, %v", k, l, show(again), show(want), e)
			}
			if now := fmt.Sprint(len(l), l[:cap(l)]); now != was {
				t.Errorf("%s, not %s", now, was)
			}
			p, _ = eval.Program(k, l)
			clear(l)
			if !prog.Same(p, want) {
				t.Errorf("%d: %s, not %s", k, show(p), show(want))
			}
		}
	}
}

// spoil writes into all memory of a program's lists, behind their ends too, where nothing may have stood.
func spoil(t *testing.T, p api.Prog) {
	t.Helper()
	for k, i := range p.Code[:cap(p.Code)] {
		if k >= len(p.Code) && i != (api.Instr{}) {
			t.Errorf("behind the end: %v", i)
		}
		p.Code[:cap(p.Code)][k] = in(-9, -9, -9, -9, -9)
	}
	for k, r := range p.Outs[:cap(p.Outs)] {
		if k >= len(p.Outs) && r != 0 {
			t.Errorf("behind the end: %d", r)
		}
		p.Outs[:cap(p.Outs)][k] = -9
	}
}
