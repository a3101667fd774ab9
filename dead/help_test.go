package dead_test

import (
	"fmt"
	"math"
	"math/big"
	"slices"
	"strings"
	"testing"

	"swage/api"
	"swage/integer"
	"swage/prog"
)

// The limits, as the document tells them.
const (
	mostRegs  = 128
	mostCode  = 16384
	mostConst = 512
	mostShift = 64
)

// The operations, by their numbers.
const (
	move = iota + 1
	neg
	add
	sub
	mul
	div
	shl
	shr
)

// in is an instruction: its operation, what it sets, what it asks, its constant.
func in(op, to, a, b, c int) api.Instr { return api.Instr{Op: op, To: to, A: a, B: b, C: c} }

// read is the program of a text whose lines are parted by bars.
func read(t *testing.T, s string) api.Prog {
	t.Helper()
	p, spot := prog.Read(strings.ReplaceAll(s, " | ", "\n") + "\n")
	if spot != (api.Spot{}) {
		t.Fatalf("Read of %q: %v", s, spot)
	}
	return p
}

// show is a program as a failing test tells it: not all of a long one.
func show(p api.Prog) string {
	code, outs := p.Code[:min(len(p.Code), 30)], p.Outs[:min(len(p.Outs), 20)]
	return fmt.Sprintf("(in %d regs %d, %d instructions %v, %d outs %v)", p.Ins, p.Regs, len(p.Code), code, len(p.Outs), outs)
}

// alike tells whether both have the same numbers and the same lists, by no call of the project.
func alike(p, q api.Prog) bool {
	return p.Ins == q.Ins && p.Regs == q.Regs && slices.Equal(p.Code, q.Code) && slices.Equal(p.Outs, q.Outs)
}

// times is an instruction, so often.
func times(n int, i api.Instr) []api.Instr { return slices.Repeat([]api.Instr{i}, n) }

// alone is a program of one input, and of these instructions on two registers; it answers both.
func alone(code ...api.Instr) api.Prog {
	return api.Prog{Ins: 1, Regs: 2, Code: code, Outs: []int{0, 1}}
}

// asksBoth tells whether an operation asks B beside A.
func asksBoth(op int) bool { return op == add || op == sub }

// constants are some that an operation may have, the edges among them.
func constants(op int) []int {
	switch op {
	case mul, div:
		return []int{-mostConst, -3, -2, -1, 1, 2, 3, mostConst}
	case shl, shr:
		return []int{1, 2, 3, mostShift}
	}
	return []int{0}
}

// stray are instructions that may be in no program.
func stray() []api.Instr {
	far := []int{math.MinInt, -1 << 32, -1, mostRegs, mostRegs + 1, 1 << 32, math.MaxInt}
	l := []api.Instr{{}}
	for op := move; op <= shr; op++ {
		c := constants(op)[0]
		for _, n := range far {
			l = append(l, in(op, n, 0, 0, c), in(op, 0, n, 0, c), in(op, 0, 0, n, c), in(op, n, n, n, c))
		}
		for _, c := range []int{math.MinInt, -513, -64, 0, 1, 65, 513, math.MaxInt} {
			switch {
			case (op == mul || op == div) && (c == -64 || c == 1 || c == 65), (op == shl || op == shr) && c == 1, op < mul && c == 0:
			default:
				l = append(l, in(op, 1, 0, 0, c))
			}
		}
		if !asksBoth(op) {
			l = append(l, in(op, 1, 0, 1, c), in(op, 1, 1, 1, c))
		}
	}
	for _, op := range []int{math.MinInt, -1, 0, 9, 1<<32 + 1, math.MaxInt} {
		l = append(l, in(op, 0, 0, 0, 0), in(op, 1, 0, 0, 3), in(op, 1, 0, 1, 0))
	}
	return l
}

// wrong are programs that may not be, of each kind.
func wrong() []api.Prog {
	var l []api.Prog
	mend := func(f func(p *api.Prog)) {
		p := api.Prog{Ins: 2, Regs: 3, Code: []api.Instr{in(add, 2, 0, 1, 0), in(add, 1, 1, 0, 0)}, Outs: []int{2, 1}}
		f(&p)
		l = append(l, p)
	}
	for _, n := range []int{math.MinInt, -1, 0, 4, mostRegs + 1, math.MaxInt} {
		mend(func(p *api.Prog) { p.Ins = n })
	}
	for _, n := range []int{math.MinInt, -1, 0, 1, mostRegs + 1, math.MaxInt} {
		mend(func(p *api.Prog) { p.Regs = n })
	}
	for _, i := range append(stray(), in(move, 3, 0, 0, 0), in(move, 3, 3, 0, 0), in(mul, 0, 3, 0, 1), in(add, 0, 3, 3, 0), in(add, 0, 0, 3, 0)) {
		mend(func(p *api.Prog) { p.Code = append(p.Code, i) })
		mend(func(p *api.Prog) { p.Code = append([]api.Instr{i}, p.Code...) })
	}
	for _, outs := range [][]int{nil, {}, {-1}, {3}, {2, 0, 3}, {math.MinInt}, {math.MaxInt}, make([]int, mostRegs+1)} {
		mend(func(p *api.Prog) { p.Outs = outs })
	}
	return append(l, api.Prog{}, api.Prog{Regs: 1, Outs: []int{0}}, alone(times(mostCode+1, in(move, 0, 0, 0, 0))...), api.Prog{Ins: 129, Regs: 129, Outs: []int{0}})
}

// asksOf are the registers that an instruction asks, by chapter 8's table.
func asksOf(i api.Instr) []int {
	if asksBoth(i.Op) {
		return []int{i.A, i.B}
	}
	return []int{i.A}
}

// neededOf tells of each instruction whether it is needed, by chapter 8's words: of each one those behind it are gone through, till one sets its register anew.
func neededOf(p api.Prog) []bool {
	needed := make([]bool, len(p.Code))
	for k := len(p.Code) - 1; k >= 0; k-- {
		to, anew := p.Code[k].To, false
		for j := k + 1; j < len(p.Code) && !anew; j++ {
			if needed[j] && slices.Contains(asksOf(p.Code[j]), to) {
				needed[k] = true
			}
			anew = p.Code[j].To == to
		}
		if !anew && slices.Contains(p.Outs, to) {
			needed[k] = true
		}
	}
	return needed
}

// staysOf tells of each instruction whether it is needed, and not idle, by the chapter's words.
func staysOf(p api.Prog) []bool {
	stays := neededOf(p)
	for k, i := range p.Code {
		if i.Op == move && i.To == i.A {
			stays[k] = false
		}
	}
	return stays
}

// passOf is what the pass makes of a program that may be, by the chapter's words.
func passOf(p api.Prog) api.Prog {
	q := api.Prog{Ins: p.Ins, Regs: p.Regs, Outs: p.Outs}
	for k, stays := range staysOf(p) {
		if stays {
			q.Code = append(q.Code, p.Code[k])
		}
	}
	return q
}

// idleOf are the numbers of the idle instructions, by the chapter's words.
func idleOf(p api.Prog) []int {
	var l []int
	for k, stays := range staysOf(p) {
		if !stays {
			l = append(l, k)
		}
	}
	return l
}

// askedOf tells of each register whether its beginning is asked, by the chapter's words, register by register.
func askedOf(p api.Prog) []bool {
	asked, stays := make([]bool, p.Regs), staysOf(p)
	for r := range asked {
		set := false // by an instruction ahead that is needed, and not idle
		for k, i := range p.Code {
			if stays[k] && !set && slices.Contains(asksOf(i), r) {
				asked[r] = true
			}
			set = set || stays[k] && i.To == r
		}
		if !set && slices.Contains(p.Outs, r) {
			asked[r] = true
		}
	}
	return asked
}

// maker makes the same numbers in every run: a shift register, so that a test that fails does so again.
type maker uint64

func (m *maker) next() uint32 {
	*m ^= *m << 13
	*m ^= *m >> 7
	*m ^= *m << 17
	return uint32(*m >> 16)
}

// below is a number from 0 to below n.
func (m *maker) below(n int) int { return int(m.next() % uint32(n)) }

// one is one of a list.
func (m *maker) one(l ...int) int { return l[m.below(len(l))] }

// instr is an instruction that may be in a program, on some of its registers alone; many are moves, some of a register to itself.
func (m *maker) instr(regs []int) api.Instr {
	i := in(m.one(move, move, move, neg, add, add, sub, sub, mul, mul, div, shl, shr), m.one(regs...), m.one(regs...), 0, 0)
	switch i.Op {
	case move:
		if m.below(3) == 0 {
			i.A = i.To
		}
	case add, sub:
		i.B = m.one(regs...)
	case mul, div:
		i.C = m.one(3, 3, -1, 2, 1)
	case shl, shr:
		i.C = m.one(1, 1, 2)
	}
	return i
}

// used are a few registers of so many, the first and the last one among them.
func (m *maker) used(regs int) []int {
	l := []int{0, regs - 1}
	for range 1 + m.below(5) {
		l = append(l, m.below(regs))
	}
	return l
}

// program is one that may be, with this many inputs, outs, registers and instructions.
func (m *maker) program(ins, outs, regs, code int) api.Prog {
	p := api.Prog{Ins: ins, Regs: regs}
	used := m.used(regs)
	for range code {
		p.Code = append(p.Code, m.instr(used))
	}
	for range outs {
		p.Outs = append(p.Outs, m.one(used...))
	}
	return p
}

// spread is a program of many registers, each instruction setting one of them all, so that little of it is set anew, and much is asked by nobody.
func (m *maker) spread(code int) api.Prog {
	ins := 1 + m.below(4)
	p := api.Prog{Ins: ins, Regs: ins + m.below(12), Outs: make([]int, 1+m.below(3))}
	all := make([]int, p.Regs)
	for r := range all {
		all[r] = r
	}
	for range code {
		p.Code = append(p.Code, m.instr(all))
	}
	for k := range p.Outs {
		p.Outs[k] = m.below(p.Regs)
	}
	return p
}

// some are n programs of each of two kinds that may be, drawn at random, and a few that are set by hand.
func some(n int) []api.Prog {
	m := maker(2463534242)
	l := []api.Prog{alone(), alone(in(move, 0, 0, 0, 0)), alone(in(neg, 1, 0, 0, 0), in(neg, 0, 0, 0, 0)), {Ins: 128, Regs: 128, Outs: make([]int, 128)}}
	for k := range n {
		ins := 1 + m.below(3)
		regs := []int{ins, ins + 1, ins + 3, mostRegs}[k%4]
		l = append(l, m.program(ins, 1+m.below(4), regs, k%31), m.spread(k%23))
	}
	return l
}

// numbers are n numbers, below 0 and above, some of them 0, some with many divisors.
func (m *maker) numbers(n int) []*big.Int {
	common := big.NewInt(1)
	for _, prime := range []int64{2, 3} {
		most := int64(m.one(0, 0, 1, 4, 12))
		common.Mul(common, new(big.Int).Exp(big.NewInt(prime), big.NewInt(most), nil))
	}
	common.Lsh(common, uint(m.one(0, 0, 0, 70)))
	l := make([]*big.Int, n)
	for k := range l {
		l[k] = big.NewInt(int64(m.next()) - 1<<31)
		if m.below(5) == 0 {
			l[k].SetInt64(int64(m.below(5) - 2))
		}
		l[k].Mul(l[k], common)
	}
	return l
}

// integers are the Ints of numbers of another make.
func integers(t *testing.T, l []*big.Int) []integer.Int {
	t.Helper()
	numbers := make([]integer.Int, len(l))
	for k, v := range l {
		x, spot := integer.Read(v.String())
		if spot != (api.Spot{}) {
			t.Fatalf("Read of %v: %v", v, spot)
		}
		numbers[k] = x
	}
	return numbers
}

// told is a row, a blank between two numbers.
func told(l []integer.Int) string {
	var texts []string
	for _, x := range l {
		texts = append(texts, x.Text())
	}
	return strings.Join(texts, " ")
}

// toldAll is rows, parted by semicolons.
func toldAll(rows [][]integer.Int) string {
	var texts []string
	for _, l := range rows {
		texts = append(texts, told(l))
	}
	return strings.Join(texts, "; ")
}
