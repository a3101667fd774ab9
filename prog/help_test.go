package prog_test

import (
	"fmt"
	"math"
	"math/big"
	"slices"
	"strings"
	"testing"

	"swage/api"
	"swage/prog"
)

// The limits, as the document tells them.
const (
	mostRegs  = 128
	mostCode  = 16384
	mostConst = 512
	mostShift = 64
	mostText  = 65536
)

// The operations, by their numbers.
const (
	move = iota + 1
	neg
	add
	sub
	mul
	div
	shl
	shr
)

// in is an instruction: its operation, what it sets, what it asks, its constant.
func in(op, to, a, b, c int) api.Instr { return api.Instr{Op: op, To: to, A: a, B: b, C: c} }

// lines is a text whose lines are parted by bars, as the examples are.
func lines(s string) string {
	return strings.ReplaceAll(s, " | ", "\n") + "\n"
}

// read is the program of such a text, which must be one.
func read(t *testing.T, s string) api.Prog {
	t.Helper()
	p, spot := prog.Read(lines(s))
	if spot != (api.Spot{}) {
		t.Fatalf("Read of %q: %v", s, spot)
	}
	return p
}

// example is P of the chapter, put together by hand.
func example() api.Prog {
	return api.Prog{Ins: 2, Regs: 3, Code: []api.Instr{in(sub, 2, 0, 1, 0), in(div, 2, 2, 0, 2)}, Outs: []int{2, 0}}
}

// plain is a program of this many inputs, registers, instructions and outs, all of which are r0.
func plain(ins, regs, code, outs int) api.Prog {
	return api.Prog{Ins: ins, Regs: regs, Code: slices.Repeat([]api.Instr{in(move, 0, 0, 0, 0)}, code), Outs: make([]int, outs)}
}

// zero tells whether nothing stands in a program.
func zero(p api.Prog) bool {
	return p.Ins == 0 && p.Regs == 0 && len(p.Code) == 0 && len(p.Outs) == 0
}

// alike tells whether both have the same numbers and the same lists, by no call of the package.
func alike(p, q api.Prog) bool {
	return fmt.Sprintf("%d %d %v %v", p.Ins, p.Regs, append([]api.Instr{}, p.Code...), append([]int{}, p.Outs...)) ==
		fmt.Sprintf("%d %d %v %v", q.Ins, q.Regs, append([]api.Instr{}, q.Code...), append([]int{}, q.Outs...))
}

// show is a program as a failing test tells it: not all of a long one.
func show(p api.Prog) string {
	code, outs := p.Code[:min(len(p.Code), 20)], p.Outs[:min(len(p.Outs), 20)]
	return fmt.Sprintf("(in %d regs %d, %d instructions %v, %d outs %v)", p.Ins, p.Regs, len(p.Code), code, len(p.Outs), outs)
}

// cloned is a program in lists of its own, by no call of the package.
func cloned(p api.Prog) api.Prog {
	p.Code = append([]api.Instr{}, p.Code...)
	p.Outs = append([]int{}, p.Outs...)
	return p
}

// extremes are numbers at which something turns or wraps round, whatever limit is asked.
func extremes() []int {
	return []int{math.MinInt, math.MinInt + 1, -1 << 32, -1, 0, 1, 2, 1 << 8, 1 << 16, 1 << 32, 1<<32 + 1, math.MaxInt - 1, math.MaxInt}
}

// constants are those at which something turns, for each operation.
func constants() []int {
	return append(extremes(), -mostConst-1, -mostConst, -mostConst+1, -mostShift-1, -mostShift, -2, mostShift-1, mostShift, mostShift+1, mostConst-1, mostConst, mostConst+1)
}

// operations are all eight, one below the first and one above the last, and others.
func operations() []int {
	return append(extremes(), 3, 4, 5, 6, 7, 8, 9, 10, 1<<8+1, 1<<16+5)
}

// asked is how many registers each operation asks.
func asked(op int) int {
	return map[int]int{move: 1, neg: 1, add: 2, sub: 2, mul: 1, div: 1, shl: 1, shr: 1}[op]
}

// allowed are the constants that an operation may have.
func allowed(op int) map[int]bool {
	l := map[int]bool{}
	switch op {
	case move, neg, add, sub:
		l[0] = true
	case mul, div:
		for c := 1; c <= mostConst; c++ {
			l[c], l[-c] = true, true
		}
	case shl, shr:
		for c := 1; c <= mostShift; c++ {
			l[c] = true
		}
	}
	return l
}

// judge tells of instructions whether they may be; it remembers each operation's constants.
type judge map[int]map[int]bool

// fine is what the chapter's words say of an instruction in a program of so many registers.
func (j judge) fine(i api.Instr, regs int) bool {
	if j[i.Op] == nil {
		j[i.Op] = allowed(i.Op)
	}
	named := []int{i.To, i.A, i.B}[:1+asked(i.Op)]
	for _, r := range named {
		if r < 0 || r > regs-1 {
			return false
		}
	}
	return j[i.Op][i.C] && (asked(i.Op) == 2 || i.B == 0)
}

// verdict is what the chapter's words say of a program.
func (j judge) verdict(p api.Prog) (int, api.Errno) {
	few := p.Ins < 1 || p.Ins > p.Regs || len(p.Outs) < 1
	many := p.Regs > mostRegs || len(p.Outs) > mostRegs || len(p.Code) > mostCode
	if few || many || slices.Min(p.Outs) < 0 || slices.Max(p.Outs) >= p.Regs {
		return -1, api.ErrProg
	}
	for k, i := range p.Code {
		if !j.fine(i, p.Regs) {
			return k, api.ErrProg
		}
	}
	return 0, api.OK
}

// written is a program's text, by no call of the package.
func written(p api.Prog) string {
	s := fmt.Sprintf("in %d regs %d\n", p.Ins, p.Regs)
	var b strings.Builder
	b.WriteString(s)
	for _, i := range p.Code {
		forms := []string{"", "r%d = r%d\n", "r%d = -r%d\n", "r%d = r%d + r%d\n", "r%d = r%d - r%d\n", "r%d = r%d * %d\n", "r%d = r%d / %d\n", "r%d = r%d << %d\n", "r%d = r%d >> %d\n"}
		parts := []any{i.To, i.A, i.B}[:1+asked(i.Op)]
		if i.Op >= mul {
			parts = append(parts, i.C)
		}
		fmt.Fprintf(&b, forms[i.Op], parts...)
	}
	b.WriteString("out")
	for _, r := range p.Outs {
		fmt.Fprintf(&b, " r%d", r)
	}
	return b.String() + "\n"
}

// maker makes the same numbers in every run: a shift register, so that a test that fails does so again.
type maker uint64

func (m *maker) next() uint32 {
	*m ^= *m << 13
	*m ^= *m >> 7
	*m ^= *m << 17
	return uint32(*m >> 16)
}

// below is a number from 0 to below n.
func (m *maker) below(n int) int { return int(m.next() % uint32(n)) }

// instr is an instruction that may be in a program of so many registers.
func (m *maker) instr(regs int) api.Instr {
	i := in(1+m.below(8), m.below(regs), m.below(regs), 0, 0)
	switch i.Op {
	case add, sub:
		i.B = m.below(regs)
	case mul, div:
		i.C = []int{1, -1, 2, 3, -5, mostConst, -mostConst, 1 + m.below(mostConst)}[m.below(8)]
	case shl, shr:
		i.C = []int{1, 2, mostShift, 1 + m.below(mostShift)}[m.below(4)]
	}
	return i
}

// program is one that may be, with this many inputs and outs, of up to so many registers and instructions.
func (m *maker) program(ins, outs, regs, code int) api.Prog {
	p := api.Prog{Ins: ins, Regs: ins + m.below(regs-ins+1)}
	for range m.below(code + 1) {
		p.Code = append(p.Code, m.instr(p.Regs))
	}
	for range outs {
		p.Outs = append(p.Outs, m.below(p.Regs))
	}
	return p
}

// some are n programs that may be, small ones and some that are not.
func some(n int) []api.Prog {
	m := maker(2463534242)
	l := []api.Prog{example(), plain(1, 1, 0, 1), plain(mostRegs, mostRegs, 0, mostRegs), plain(1, 1, 1, 1), plain(1, mostRegs, 2, 1)}
	for k := range n {
		regs := []int{2, 3, 5, mostRegs}[k%4]
		l = append(l, m.program(1+m.below(2), 1+m.below(3), regs, 1+k%13))
	}
	return l
}

// wrong are programs that may not be, of each kind.
func wrong() []api.Prog {
	var l []api.Prog
	mend := func(f func(p *api.Prog)) {
		p := example()
		f(&p)
		l = append(l, p)
	}
	for _, n := range []int{math.MinInt, -1, 0, 4, mostRegs + 1, math.MaxInt} {
		mend(func(p *api.Prog) { p.Ins = n })
		if n != 4 {
			mend(func(p *api.Prog) { p.Ins, p.Regs = n, n+1 })
		}
	}
	for _, n := range []int{math.MinInt, -1, 0, 1, mostRegs + 1, math.MaxInt} {
		mend(func(p *api.Prog) { p.Regs = n })
	}
	for _, i := range []api.Instr{{}, in(9, 0, 0, 0, 0), in(move, 3, 0, 0, 0), in(move, 0, -1, 0, 0), in(sub, 0, 0, 3, 0), in(neg, 0, 0, 1, 0), in(mul, 2, 0, 0, 0), in(div, 2, 0, 0, 513), in(shl, 0, 0, 0, 65), in(shr, 0, 0, 0, 0), in(add, 0, 0, 0, 1)} {
		mend(func(p *api.Prog) { p.Code = append(p.Code, i) })
		mend(func(p *api.Prog) { p.Code = append([]api.Instr{i}, p.Code...) })
	}
	for _, outs := range [][]int{nil, {}, {-1}, {3}, {2, 0, 3}, {math.MinInt}, {math.MaxInt}, make([]int, mostRegs+1)} {
		mend(func(p *api.Prog) { p.Outs = outs })
	}
	return append(l, api.Prog{}, plain(1, 1, mostCode+1, 1), plain(129, 129, 0, 1))
}

// run is what a program answers, its divisions taken as fractions of another make.
func run(p api.Prog, ins []*big.Rat) []*big.Rat {
	regs := make([]*big.Rat, p.Regs)
	for r := range regs {
		regs[r] = new(big.Rat)
		if r < len(ins) {
			regs[r] = ins[r]
		}
	}
	for _, i := range p.Code {
		v, a, b, c := new(big.Rat), regs[i.A], regs[i.B], big.NewRat(int64(i.C), 1)
		power := new(big.Rat).SetInt(new(big.Int).Lsh(big.NewInt(1), uint(i.C&127)))
		switch i.Op {
		case move:
			v.Set(a)
		case neg:
			v.Neg(a)
		case add:
			v.Add(a, b)
		case sub:
			v.Sub(a, b)
		case mul:
			v.Mul(a, c)
		case div:
			v.Quo(a, c)
		case shl:
			v.Mul(a, power)
		case shr:
			v.Quo(a, power)
		}
		regs[i.To] = v
	}
	var outs []*big.Rat
	for _, r := range p.Outs {
		outs = append(outs, regs[r])
	}
	return outs
}

// rats are n numbers, no two of them the same.
func (m *maker) rats(n int) []*big.Rat {
	l := make([]*big.Rat, n)
	for i := range l {
		l[i] = big.NewRat(int64(m.next())-1<<31, int64(2*i+1))
	}
	return l
}
