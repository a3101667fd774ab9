package check_test

import (
	"fmt"
	"math"
	"slices"
	"testing"

	"swage/api"
	"swage/check"
)

// holdWrong tells what is wrong, unless Unit tells this of a unit, and the chapter's words do.
func holdWrong(t *testing.T, u api.Unit, part int, e api.Errno) {
	t.Helper()
	if k, f := check.Unit(u); k != part || f != e {
		t.Errorf("Unit of %s: %d, %v, not %d, %v", show(u), k, f, part, e)
	}
	if k, f := wrongOf(u); k != part || f != e {
		t.Errorf("by the words %s: %d, %v, not %d, %v", show(u), k, f, part, e)
	}
}

// holdAsWords tells what is wrong, unless Unit tells of a unit what the chapter's words say; that is answered.
func holdAsWords(t *testing.T, u api.Unit) (int, api.Errno) {
	t.Helper()
	part, e := wrongOf(u)
	if k, f := check.Unit(u); k != part || f != e {
		t.Errorf("Unit of %s: %d, %v, not %d, %v", show(u), k, f, part, e)
	}
	return part, e
}

// P18.1: the chapter's examples.
func TestUnitExamples(t *testing.T) {
	for _, x := range []struct {
		mend func(u *api.Unit)
		part int
		e    api.Errno
	}{
		{func(u *api.Unit) {}, 0, api.OK},
		{func(u *api.Unit) { u.K1 = 0 }, 0, api.ErrLimit},
		{func(u *api.Unit) { u.Points[0] = u.Points[1] }, 0, api.ErrBadPoints},
		{func(u *api.Unit) { u.Left.Outs = nil }, 1, api.ErrProg},
		{func(u *api.Unit) { u.Left, u.Back = u.Back, u.Left }, 1, api.ErrWrong},
		{func(u *api.Unit) { u.Right.Outs = []int{0, 0, 0} }, 2, api.ErrWrong},
		{func(u *api.Unit) { slices.Reverse(u.Back.Outs) }, 3, api.ErrWrong},
	} {
		u := compiled(t, 2, 2, "0 1 inf")
		x.mend(&u)
		holdWrong(t, u, x.part, x.e)
	}
	if api.ErrLimit != 70 || api.ErrBadPoints != 71 || api.ErrProg != 80 || api.ErrWrong != 180 {
		t.Error("the errors have other numbers")
	}
}

// P18.1: the zero unit, and such with nothing but a scheme.
func TestEmptyUnits(t *testing.T) {
	holdWrong(t, api.Unit{}, 0, api.ErrLimit)
	holdWrong(t, api.Unit{K1: 1, K2: 1}, 0, api.ErrBadPoints)
	holdWrong(t, api.Unit{K1: 1, K2: 1, Points: []api.Point{{}}}, 0, api.ErrBadPoints)
	holdWrong(t, api.Unit{K1: 1, K2: 1, Points: []api.Point{{A: 1}}}, 1, api.ErrProg)
	least := api.Prog{Ins: 1, Regs: 1, Outs: []int{0}}
	holdWrong(t, api.Unit{K1: 1, K2: 1, Points: []api.Point{{A: 1}}, Left: least}, 2, api.ErrProg)
	holdWrong(t, api.Unit{K1: 1, K2: 1, Points: []api.Point{{A: 1}}, Left: least, Right: least}, 3, api.ErrProg)
	holdWrong(t, api.Unit{K1: 1, K2: 1, Points: []api.Point{{A: 1}}, Left: least, Right: least, Back: least}, 0, api.OK)
}

// head is what stands ahead of the programs, and what is wrong with it.
type head struct {
	k1, k2 int
	points []api.Point
	e      api.Errno
}

// beyond are numbers that are no split count.
func beyond() []int {
	return []int{math.MinInt, -1 << 32, -8, -1, 0, mostParts + 1, mostParts + 2, 255, 256 + 2, 1<<32 + 2, math.MaxInt}
}

// far are coordinates that are not in.
func far() []int {
	return []int{math.MinInt, math.MinInt + 1, -1 << 32, -mostPoint - 1, mostPoint + 1, 256, 1<<32 + 1, math.MaxInt}
}

// heads are at the edges that the chapters name, refused ones and such that are not.
func heads(t *testing.T) []head {
	t.Helper()
	three := points(t, "0 1 inf")
	var l []head
	for _, n := range beyond() {
		l = append(l, head{n, 2, three, api.ErrLimit}, head{2, n, three, api.ErrLimit}, head{n, n, three, api.ErrLimit}, head{n, 2, nil, api.ErrLimit}, head{2, n, []api.Point{{}}, api.ErrLimit})
	}
	for _, n := range far() {
		for k := range 3 {
			a, b := slices.Clone(three), slices.Clone(three)
			a[k].A, b[k].B = n, n
			l = append(l, head{2, 2, a, api.ErrLimit}, head{2, 2, b, api.ErrLimit}, head{3, 3, a, api.ErrLimit}, head{0, 3, b, api.ErrLimit})
		}
		l = append(l, head{1, 1, []api.Point{{}, {}, {A: n}}, api.ErrLimit}, head{1, 1, []api.Point{{A: 1, B: n}}, api.ErrLimit})
	}
	many := slices.Repeat(three, 20000)
	l = append(l, head{2, 2, many, api.ErrBadPoints}, head{2, 2, append(many, at(17, 1)), api.ErrLimit})
	for k1 := 1; k1 <= mostParts; k1++ {
		for k2 := 1; k2 <= mostParts; k2++ {
			n := k1 + k2 - 1
			all := points(t, "0 inf 1 -1 2 -2 1/2 -1/2 3 -3 4 -4 5 -5 6 -6")
			l = append(l, head{k1, k2, all[:n], api.OK}, head{k1, k2, all[:n-1], api.ErrBadPoints}, head{k1, k2, all[:n+1], api.ErrBadPoints}, head{k1, k2, nil, api.ErrBadPoints})
		}
	}
	for _, x := range []struct {
		k1, k2 int
		points string
		e      api.Errno
	}{
		{2, 2, "0 1 (2:2)", api.ErrBadPoints}, {2, 2, "0 1 (0:0)", api.ErrBadPoints}, {2, 2, "(0:0) 0 1", api.ErrBadPoints}, {2, 2, "0 1 1", api.ErrBadPoints}, {2, 2, "inf 1 (-16:0)", api.ErrBadPoints}, {2, 2, "0 (0:-16) 1", api.ErrBadPoints},
		{2, 2, "1/2 (8:16) 0", api.ErrBadPoints}, {2, 2, "-1/2 (8:-16) 0", api.ErrBadPoints}, {2, 2, "(0:0) (0:0) (0:0)", api.ErrBadPoints}, {1, 1, "(0:0)", api.ErrBadPoints}, {1, 1, "0 1", api.ErrBadPoints},
		{2, 1, "inf (2:0)", api.ErrBadPoints}, {8, 8, "0 1 -1 2 -2 3 -3 4 -4 5 -5 6 -6 7 (-7:-1)", api.ErrBadPoints}, {8, 8, "0 1 -1 2 -2 3 -3 4 -4 5 -5 6 -6 7 -7 8", api.ErrBadPoints},
		{1, 1, "(3:-6)", api.OK}, {1, 1, "inf", api.OK}, {1, 1, "(-16:0)", api.OK}, {1, 1, "(0:-16)", api.OK}, {1, 1, "(16:16)", api.OK}, {2, 1, "inf 0", api.OK}, {1, 2, "(-16:-16) (16:-16)", api.OK}, {2, 2, "1/2 -1/2 (16:0)", api.OK}, {2, 2, "16/15 -16/15 (15:-16)", api.OK},
		{1, 8, "16 -16 1/16 -1/16 (16:16) (-16:16) (0:-16) (-16:0)", api.OK}, {8, 1, "16/15 16/13 16/11 15/16 13/16 11/16 -16/15 -16/13", api.OK},
		{8, 8, "16 -16 15/16 -15/16 13/11 -13/11 14/13 16/15 -16/15 11/16 -11/16 13/16 16/13 (15:-14) inf", api.OK},
	} {
		l = append(l, head{x.k1, x.k2, points(t, x.points), x.e})
	}
	return l
}

// P18.1: of 0 what scheme.New says, whatever the programs are; where the scheme may be, the first wrong program.
func TestHeads(t *testing.T) {
	two := compiled(t, 2, 2, "0 1 inf")
	for _, h := range heads(t) {
		u := cloned(two)
		u.K1, u.K2, u.Points = h.k1, h.k2, h.points
		if h.e != api.OK {
			holdWrong(t, u, 0, h.e)
			u.Left, u.Right, u.Back = api.Prog{}, api.Prog{}, api.Prog{Ins: -1}
			holdWrong(t, u, 0, h.e)
			continue
		}
		holdAsWords(t, u)
		u.Right, u.Back = api.Prog{}, api.Prog{}
		holdAsWords(t, u)
		u.Left = api.Prog{}
		holdWrong(t, u, 1, api.ErrProg)
	}
}

// P18.1: of several parts that are wrong the first one is told, each being right, or none that may be, or one that does something else.
func TestFirstOfSeveral(t *testing.T) {
	for _, x := range []api.Unit{compiled(t, 2, 2, "0 1 inf"), compiled(t, 3, 2, "0 1 -1 1/2"), raw(t, 1, 1, "(3:-6)"), raw(t, 1, 3, "0 inf 1"), raw(t, 8, 8, "0 1 -1 2 -2 3 -3 4 -4 5 -5 6 -6 7 inf")} {
		for n := range 3 * 3 * 3 * 3 {
			u := cloned(x)
			kinds := []int{n % 3, n / 3 % 3, n / 9 % 3, n / 27}
			part, e := 0, api.OK
			for k := 3; k > 0; k-- {
				p := sides(&u)[k-1]
				switch kinds[k] {
				case 1:
					p.Outs[0] = p.Regs
					part, e = k, api.ErrProg
				case 2:
					p.Code = append(p.Code, in(add, p.Outs[0], p.Outs[0], p.Outs[0], 0))
					part, e = k, api.ErrWrong
				}
			}
			switch kinds[0] {
			case 1:
				u.K2 = mostParts + 1
				part, e = 0, api.ErrLimit
			case 2:
				u.Points[0] = api.Point{}
				part, e = 0, api.ErrBadPoints
			}
			holdWrong(t, u, part, e)
		}
	}
}

// P18.1: ErrProg at the number of a program that may not be, of whatever kind, though those behind it be as they will.
func TestProgramsThatMayNotBe(t *testing.T) {
	for _, x := range []api.Unit{compiled(t, 2, 2, "0 1 -1"), compiled(t, 1, 1, "inf"), raw(t, 4, 3, "0 1 -1 2 1/2 inf")} {
		for k := range 3 {
			for _, p := range wrongPrograms(*sides(&x)[k]) {
				u := cloned(x)
				*sides(&u)[k] = p
				holdWrong(t, u, k+1, api.ErrProg)
				if k < 2 {
					sides(&u)[k+1].Outs = append(sides(&u)[k+1].Outs, 0)
					holdWrong(t, u, k+1, api.ErrProg)
					*sides(&u)[2] = api.Prog{}
					holdWrong(t, u, k+1, api.ErrProg)
				}
			}
		}
	}
}

// written is a program, and what is told of a unit with it.
type written struct {
	text string
	e    api.Errno
}

// P18.1: programs that evaluate at 0, 1 and infinity, and such that may be and do not.
func TestEvaluating(t *testing.T) {
	for _, w := range []written{
		{"in 2 regs 3 | r2 = r0 + r1 | out r0 r2 r1", api.OK},
		{"in 2 regs 9 | r8 = r1 + r0 | r7 = r0 << 64 | out r0 r8 r1", api.OK},
		{"in 2 regs 4 | r2 = r0 * 3 | r3 = r0 << 1 | r2 = r2 - r3 | r2 = r2 + r1 | out r0 r2 r1", api.OK},
		{"in 2 regs 3 | r2 = r0 + r1 | out r0 r1 r2", api.ErrWrong},
		{"in 2 regs 3 | r2 = r0 + r1 | out r1 r2 r0", api.ErrWrong},
		{"in 2 regs 3 | r2 = r0 + r1 | out r0 r2", api.ErrWrong},
		{"in 2 regs 3 | r2 = r0 + r1 | out r0 r2 r1 r1", api.ErrWrong},
		{"in 1 regs 3 | r2 = r0 + r1 | out r0 r2 r1", api.ErrWrong},
		{"in 3 regs 3 | r2 = r0 + r1 | out r0 r2 r1", api.ErrWrong},
		{"in 2 regs 3 | r2 = r0 - r1 | out r0 r2 r1", api.ErrWrong},
		{"in 2 regs 3 | r1 = r0 + r1 | out r0 r2 r1", api.ErrWrong},
		{"in 2 regs 3 | out r0 r2 r1", api.ErrWrong},
		{"in 2 regs 3 | r2 = r0 + r1 | r2 = r2 / 1 | out r0 r2 r1", api.ErrWrong},
		{"in 2 regs 3 | r2 = r0 + r1 | r2 = r2 << 1 | r2 = r2 >> 1 | out r0 r2 r1", api.ErrWrong},
		{"in 2 regs 4 | r2 = r0 + r1 | r3 = r3 >> 1 | out r0 r2 r1", api.ErrWrong},
		{"in 2 regs 4 | r3 = r0 / 2 | r2 = r0 + r1 | out r0 r2 r1", api.ErrWrong},
	} {
		u := compiled(t, 2, 2, "0 1 inf")
		u.Left = read(t, w.text)
		part := 0
		if w.e != api.OK {
			part = 1
		}
		holdWrong(t, u, part, w.e)
		u.Left, u.Right = u.Right, u.Left
		holdWrong(t, u, 2*part, w.e)
	}
}

// P18.1: programs that interpolate at 0, 1 and -1, and such that may be and do not, among these such whose divisions go for some numbers alone.
func TestInterpolating(t *testing.T) {
	for _, w := range []written{
		{"in 3 regs 3 | r2 = r1 - r2 | r2 = r2 / 2 | r1 = r1 - r0 | r1 = r1 - r2 | out r0 r2 r1", api.OK},
		{"in 3 regs 3 | r2 = r1 - r2 | r2 = r2 >> 1 | r1 = r1 - r0 | r1 = r1 - r2 | out r0 r2 r1", api.OK},
		{"in 3 regs 4 | r3 = r1 - r2 | r3 = r3 / -2 | r3 = -r3 | r1 = r1 + r2 | r1 = r1 >> 1 | r1 = r1 - r0 | out r0 r3 r1", api.OK},
		{"in 3 regs 5 | r3 = r1 - r2 | r3 = r3 << 63 | r3 = r3 >> 64 | r1 = r1 + r2 | r1 = r1 / 2 | r4 = r0 * 6 | r4 = r4 / 3 | r4 = r4 / 2 | r1 = r1 - r4 | out r4 r3 r1", api.OK},
		{"in 3 regs 4 | r2 = r1 - r2 | r2 = r2 / 2 | r1 = r1 - r0 | r1 = r1 - r2 | r3 = r3 / 512 | r3 = r3 >> 64 | out r0 r2 r1", api.OK},
		{"in 3 regs 4 | r3 = r1 >> 1 | r3 = r3 << 1 | r2 = r1 - r2 | r2 = r2 / 2 | r1 = r1 - r0 | r1 = r1 - r2 | out r0 r2 r1", api.ErrWrong},
		{"in 3 regs 3 | r2 = r1 - r2 | r2 = r2 / 2 | r1 = r1 - r0 | r1 = r1 - r2 | r1 = r1 / 3 | r1 = r1 * 3 | out r0 r2 r1", api.ErrWrong},
		{"in 3 regs 3 | r0 = r0 / 2 | r0 = r0 << 1 | r2 = r1 - r2 | r2 = r2 / 2 | r1 = r1 - r0 | r1 = r1 - r2 | out r0 r2 r1", api.ErrWrong},
		{"in 3 regs 4 | r2 = r1 - r2 | r2 = r2 / 2 | r1 = r1 - r0 | r1 = r1 - r2 | r3 = r2 / 2 | out r0 r2 r1", api.ErrWrong},
		{"in 3 regs 3 | r2 = r1 - r2 | r2 = r2 / 4 | r1 = r1 - r0 | r1 = r1 - r2 | out r0 r2 r1", api.ErrWrong},
		{"in 3 regs 3 | r2 = r1 - r2 | r1 = r1 - r0 | r1 = r1 - r2 | out r0 r2 r1", api.ErrWrong},
		{"in 3 regs 3 | r2 = r1 - r2 | r2 = r2 / 2 | r1 = r1 - r0 | r1 = r1 - r2 | out r0 r1 r2", api.ErrWrong},
		{"in 3 regs 3 | r2 = r1 - r2 | r2 = r2 / 2 | r1 = r1 - r0 | r1 = r1 - r2 | out r1 r2 r0", api.ErrWrong},
		{"in 3 regs 3 | r2 = r1 - r2 | r2 = r2 / 2 | r1 = r1 - r0 | r1 = r1 + r2 | out r0 r2 r1", api.ErrWrong},
		{"in 3 regs 3 | r2 = r1 - r2 | r2 = r2 / 2 | r1 = r1 - r0 | r1 = r1 - r2 | out r0 r2", api.ErrWrong},
		{"in 3 regs 3 | r2 = r1 - r2 | r2 = r2 / 2 | r1 = r1 - r0 | r1 = r1 - r2 | out r0 r2 r1 r1", api.ErrWrong},
		{"in 2 regs 3 | r2 = r1 - r2 | r1 = r1 - r0 | r1 = r1 - r2 | out r0 r2 r1", api.ErrWrong},
		{"in 4 regs 4 | r2 = r1 - r2 | r2 = r2 / 2 | r1 = r1 - r0 | r1 = r1 - r2 | out r0 r2 r1", api.ErrWrong},
		{"in 3 regs 3 | out r0 r1 r2", api.ErrWrong},
	} {
		u := compiled(t, 2, 2, "0 1 -1")
		u.Back = read(t, w.text)
		part := 0
		if w.e != api.OK {
			part = 3
		}
		holdWrong(t, u, part, w.e)
	}
}

// everyInstr are the instructions of so many registers, with a few constants.
func everyInstr(regs int) []api.Instr {
	var l []api.Instr
	for n := range regs * regs {
		to, a := n%regs, n/regs
		l = append(l, in(move, to, a, 0, 0), in(neg, to, a, 0, 0))
		for b := range regs {
			l = append(l, in(add, to, a, b, 0), in(sub, to, a, b, 0))
		}
		for _, c := range []int{1, -1, 2, 3, -2} {
			l = append(l, in(mul, to, a, 0, c), in(div, to, a, 0, c))
		}
		l = append(l, in(shl, to, a, 0, 1), in(shr, to, a, 0, 1))
	}
	return l
}

// P18.1: with each one instruction of each program changed to each other one, and with each one more.
func TestOneInstructionChanged(t *testing.T) {
	counts := map[string]int{}
	for _, x := range []api.Unit{compiled(t, 2, 2, "0 1 -1"), compiled(t, 2, 1, "2/3 (-4:2)"), raw(t, 2, 2, "0 1 inf"), compiled(t, 1, 3, "1/2 inf -1")} {
		for k := range 3 {
			was := *sides(&x)[k]
			for n := range len(was.Code) + 1 {
				for _, i := range everyInstr(was.Regs) {
					u := cloned(x)
					p := sides(&u)[k]
					p.Code = slices.Insert(p.Code, n, i)
					part, e := holdAsWords(t, u)
					counts[fmt.Sprint(k+1, part, e)]++
					if n < len(was.Code) {
						p.Code = slices.Delete(p.Code, n+1, n+2)
						part, e = holdAsWords(t, u)
						counts[fmt.Sprint(k+1, part, e)]++
					}
				}
			}
		}
	}
	for _, s := range []string{"1 0 0", "1 1 180", "2 0 0", "2 2 180", "3 0 0", "3 3 180"} {
		if counts[s] < 10 {
			t.Errorf("%s came up %d times: %v", s, counts[s], counts)
		}
	}
	if len(counts) != 6 {
		t.Errorf("%v", counts)
	}
}

// P18.1: units with one, two and three parts changed at random: all that may come out of it does.
func TestChangedUnits(t *testing.T) {
	m := maker(1818)
	counts := map[string]int{}
	for n, x := range right(t, 181, 250, 7) {
		holdWrong(t, x, 0, api.OK)
		for k := range 12 {
			u := m.change(x)
			for range (n + k) % 4 / 2 {
				if len(u.Points) > 0 {
					u = m.change(u)
				}
			}
			part, e := holdAsWords(t, u)
			counts[fmt.Sprint(part, " ", e)]++
		}
	}
	for _, s := range []string{"0 0", "0 70", "0 71", "1 80", "1 180", "2 80", "2 180", "3 80", "3 180"} {
		if counts[s] < 80 {
			t.Errorf("%s came up %d times: %v", s, counts[s], counts)
		}
	}
	if len(counts) != 9 {
		t.Errorf("%v", counts)
	}
}

// P18.1: at the greatest schemes, with each out of each program taken for another one, and with each instruction left out.
func TestGreatUnits(t *testing.T) {
	u := compiled(t, 8, 8, "16 -16 15/16 -15/16 13/11 -13/11 14/13 16/15 -16/15 11/16 -11/16 13/16 16/13 (15:-14) inf")
	for k := range 3 {
		for n := range u.Points {
			v := cloned(u)
			l := sides(&v)[k].Outs
			l[n] = l[(n+1)%len(l)]
			holdWrong(t, v, k+1, api.ErrWrong)
		}
		for n := 0; n < len(sides(&u)[k].Code); n += 13 {
			v := cloned(u)
			sides(&v)[k].Code = slices.Delete(sides(&v)[k].Code, n, n+1)
			holdWrong(t, v, k+1, api.ErrWrong)
		}
	}
}

// P18.1: a program of as many instructions and registers as there may be is right, if it does what it must, and one more may not be.
func TestAtTheLimits(t *testing.T) {
	x := compiled(t, 2, 2, "0 1 -1")
	for k := range 3 {
		u := cloned(x)
		p := sides(&u)[k]
		p.Regs = mostRegs
		for len(p.Code) < mostCode {
			p.Code = append(p.Code, in(move, mostRegs-1, 0, 0, 0))
		}
		holdWrong(t, u, 0, api.OK)
		p.Code = append(p.Code, in(move, mostRegs-1, 0, 0, 0))
		holdWrong(t, u, k+1, api.ErrProg)
		p.Code = p.Code[1:]
		holdWrong(t, u, k+1, api.ErrWrong)
		p.Regs++
		holdWrong(t, u, k+1, api.ErrProg)
	}
}
