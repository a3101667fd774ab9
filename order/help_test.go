package order_test

import (
	"fmt"
	"math"
	"slices"
	"strings"
	"testing"

	"swage/api"
	"swage/integer"
	"swage/prog"
	"swage/row"
)

// The limits, as the document tells them.
const (
	mostRegs  = 128
	mostCode  = 16384
	mostConst = 512
	mostShift = 64
)

// The operations, by their numbers.
const (
	move = iota + 1
	neg
	add
	sub
	mul
	div
	shl
	shr
)

// in is an instruction: its operation, what it sets, what it asks, its constant.
func in(op, to, a, b, c int) api.Instr { return api.Instr{Op: op, To: to, A: a, B: b, C: c} }

// read is the program of a text whose lines are parted by bars.
func read(t *testing.T, s string) api.Prog {
	t.Helper()
	p, spot := prog.Read(strings.ReplaceAll(s, " | ", "\n") + "\n")
	if spot != (api.Spot{}) {
		t.Fatalf("Read of %q: %v", s, spot)
	}
	return p
}

// show is a program as a failing test tells it: not all of a long one.
func show(p api.Prog) string {
	code, outs := p.Code[:min(len(p.Code), 30)], p.Outs[:min(len(p.Outs), 20)]
	return fmt.Sprintf("(in %d regs %d, %d instructions %v, %d outs %v)", p.Ins, p.Regs, len(p.Code), code, len(p.Outs), outs)
}

// alike tells whether both have the same numbers and the same lists, by no call of the project.
func alike(p, q api.Prog) bool {
	return p.Ins == q.Ins && p.Regs == q.Regs && slices.Equal(p.Code, q.Code) && slices.Equal(p.Outs, q.Outs)
}

// times is an instruction, so often.
func times(n int, i api.Instr) []api.Instr { return slices.Repeat([]api.Instr{i}, n) }

// rising are the numbers from a to below b.
func rising(a, b int) []int {
	var l []int
	for k := a; k < b; k++ {
		l = append(l, k)
	}
	return l
}

// asksBoth tells whether an operation asks B beside A.
func asksBoth(op int) bool { return op == add || op == sub }

// asksOf are the registers that an instruction asks, by chapter 8's table.
func asksOf(i api.Instr) []int {
	if asksBoth(i.Op) {
		return []int{i.A, i.B}
	}
	return []int{i.A}
}

// constants are some that an operation may have, the edges among them.
func constants(op int) []int {
	switch op {
	case mul, div:
		return []int{3, -mostConst, mostConst}
	case shl, shr:
		return []int{3, 1, mostShift}
	}
	return []int{0}
}

// notConstants are some that an operation may not have.
func notConstants(op int) []int {
	switch op {
	case mul, div:
		return []int{math.MinInt, -mostConst - 1, 0, mostConst + 1, math.MaxInt}
	case shl, shr:
		return []int{math.MinInt, -1, 0, mostShift + 1, math.MaxInt}
	}
	return []int{math.MinInt, -1, 1, math.MaxInt}
}

// stray are instructions that may be in no program.
func stray() []api.Instr {
	l := []api.Instr{{}}
	for op := move; op <= shr; op++ {
		c := constants(op)[0]
		for _, n := range []int{math.MinInt, -1, mostRegs, math.MaxInt} {
			l = append(l, in(op, n, 0, 0, c), in(op, 0, n, 0, c), in(op, 0, 0, n, c))
		}
		for _, n := range notConstants(op) {
			l = append(l, in(op, 1, 0, 0, n))
		}
		if !asksBoth(op) {
			l = append(l, in(op, 1, 0, 1, c))
		}
	}
	for _, op := range []int{math.MinInt, -1, 0, 9, 1<<32 + 1, math.MaxInt} {
		l = append(l, in(op, 0, 0, 0, 0), in(op, 1, 0, 0, 3), in(op, 1, 0, 1, 0))
	}
	return l
}

// wrong are programs that may not be, of each kind; what may not be in them is asked, or nobody asks it.
func wrong() []api.Prog {
	var l []api.Prog
	mend := func(f func(p *api.Prog)) {
		p := api.Prog{Ins: 2, Regs: 3, Code: []api.Instr{in(add, 2, 0, 1, 0), in(add, 1, 1, 0, 0)}, Outs: []int{2, 1}}
		f(&p)
		l = append(l, p)
	}
	for _, n := range []int{math.MinInt, -1, 0, 4, mostRegs + 1, math.MaxInt} {
		mend(func(p *api.Prog) { p.Ins = n })
	}
	for _, n := range []int{math.MinInt, -1, 0, 1, 2, mostRegs + 1, math.MaxInt} {
		mend(func(p *api.Prog) { p.Regs = n })
	}
	for _, i := range append(stray(), in(move, 3, 0, 0, 0), in(move, 3, 3, 0, 0), in(mul, 0, 3, 0, 1), in(add, 0, 3, 3, 0), in(add, 0, 0, 3, 0)) {
		mend(func(p *api.Prog) { p.Code = append(p.Code, i) })
		mend(func(p *api.Prog) { p.Code = append([]api.Instr{i}, p.Code...) })
		mend(func(p *api.Prog) { p.Code, p.Outs = append(p.Code, i), []int{2} })
	}
	for _, outs := range [][]int{nil, {}, {-1}, {3}, {2, 0, 3}, {math.MinInt}, {math.MaxInt}, make([]int, mostRegs+1)} {
		mend(func(p *api.Prog) { p.Outs = outs })
	}
	mend(func(p *api.Prog) { p.Code = times(mostCode+1, in(move, 0, 0, 0, 0)) })
	return append(l, api.Prog{}, api.Prog{Regs: 1, Outs: []int{0}}, api.Prog{Ins: 129, Regs: 129, Outs: []int{0}})
}

// maker makes the same numbers in every run: a shift register, so that a test that fails does so again.
type maker uint64

func (m *maker) next() uint32 {
	*m ^= *m << 13
	*m ^= *m >> 7
	*m ^= *m << 17
	return uint32(*m >> 16)
}

// below is a number from 0 to below n.
func (m *maker) below(n int) int { return int(m.next() % uint32(n)) }

// one is one of a list.
func (m *maker) one(l ...int) int { return l[m.below(len(l))] }

// some are n of a list.
func (m *maker) some(n int, l []int) []int {
	var s []int
	for range n {
		s = append(s, m.one(l...))
	}
	return s
}

// instr is an instruction that may be in a program, on these registers alone.
func (m *maker) instr(regs []int) api.Instr {
	i := in(m.one(move, move, neg, add, add, sub, sub, mul, mul, div, shl, shr), m.one(regs...), m.one(regs...), 0, 0)
	switch i.Op {
	case add, sub:
		i.B = m.one(regs...)
	case mul, div:
		i.C = m.one(3, 3, -1, 2, 1)
	case shl, shr:
		i.C = m.one(1, 1, 2)
	}
	return i
}

// program is one that may be, with this many inputs, registers and instructions, on some of its registers alone; Outs name one to six of them.
func (m *maker) program(ins, regs, code int, used []int) api.Prog {
	p := api.Prog{Ins: ins, Regs: regs, Outs: m.some(1+m.below(6), used)}
	for range code {
		p.Code = append(p.Code, m.instr(used))
	}
	return p
}

// some are programs that may be, drawn at random: n of which few registers are used, the first and the last one among them, so that they are set again and again, and n of which each one may be used, so that many values are alive at once; and a few that are set by hand.
func some(n int) []api.Prog {
	m := maker(2463534242)
	l := []api.Prog{{Ins: 1, Regs: 1, Outs: []int{0}}, {Ins: 1, Regs: 2, Code: []api.Instr{in(move, 0, 0, 0, 0)}, Outs: []int{1, 0}}, {Ins: 128, Regs: 128, Outs: make([]int, 128)}}
	for k := range n {
		ins := 1 + m.below(3)
		regs := []int{ins, ins + 1, ins + 3, mostRegs}[k%4]
		l = append(l, m.program(ins, regs, k%31, append(m.some(1+m.below(5), rising(0, regs)), 0, regs-1)))
		ins = 1 + m.below(4)
		regs = ins + m.below(12)
		l = append(l, m.program(ins, regs, k%37, rising(0, regs)))
	}
	return l
}

// numbers are n numbers, below 0 and above, some of them 0, some with many divisors.
func (m *maker) numbers(n int) []integer.Int {
	common := integer.Of([]int64{1, 1, 6, 1296, 2176782336}[m.below(5)])
	if m.below(4) == 0 {
		common, _ = common.Shl(70)
	}
	l := make([]integer.Int, n)
	for k := range l {
		x := int64(m.next()) - 1<<31
		if m.below(5) == 0 {
			x = int64(m.below(5) - 2)
		}
		l[k] = integer.Of(x).Mul(common)
	}
	return l
}

// grid is one that fits a program of so many inputs, with so many columns.
func (m *maker) grid(ins, columns int) [][]integer.Int {
	g := make([][]integer.Int, ins)
	for range columns {
		for i, x := range m.numbers(ins) {
			g[i] = append(g[i], x)
		}
	}
	return g
}

// toldAll is rows, parted by semicolons.
func toldAll(rows [][]integer.Int) string {
	var texts []string
	for _, l := range rows {
		texts = append(texts, row.Text(l))
	}
	return strings.Join(texts, "; ")
}

// roomy is a program whose lists have room behind their ends, in which something stands.
func roomy(p api.Prog) api.Prog {
	p.Code = append(slices.Clone(p.Code), times(40, in(7, 7, 7, 7, 7))...)[:len(p.Code)]
	p.Outs = append(slices.Clone(p.Outs), 7, 7, 7, 7, 7)[:len(p.Outs)]
	return p
}

// state is all that stands in a program, and in the room of its lists.
func state(p api.Prog) string {
	return fmt.Sprint(p.Ins, p.Regs, len(p.Code), p.Code[:cap(p.Code)], len(p.Outs), p.Outs[:cap(p.Outs)])
}

// spoil writes into all memory of a program's lists, behind their ends too, where nothing may have stood.
func spoil(t *testing.T, p api.Prog) {
	t.Helper()
	overwrite(t, p.Code, in(-9, -9, -9, -9, -9))
	overwrite(t, p.Outs, -9)
}

// overwrite writes into all memory of a list.
func overwrite[T comparable](t *testing.T, l []T, with T) {
	t.Helper()
	var nothing T
	for k, v := range l[:cap(l)] {
		if k >= len(l) && v != nothing {
			t.Errorf("behind the end: %v", v)
		}
		l[:cap(l)][k] = with
	}
}
