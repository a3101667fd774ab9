package fold_test

import (
	"fmt"
	"math"
	"math/big"
	"slices"
	"strings"
	"testing"

	"swage/api"
	"swage/integer"
	"swage/prog"
)

// The limits, as the document tells them.
const (
	mostRegs  = 128
	mostCode  = 16384
	mostConst = 512
	mostShift = 64
)

// The operations, by their numbers.
const (
	move = iota + 1
	neg
	add
	sub
	mul
	div
	shl
	shr
)

// in is an instruction: its operation, what it sets, what it asks, its constant.
func in(op, to, a, b, c int) api.Instr { return api.Instr{Op: op, To: to, A: a, B: b, C: c} }

// read is the program of a text whose lines are parted by bars.
func read(t *testing.T, s string) api.Prog {
	t.Helper()
	p, spot := prog.Read(strings.ReplaceAll(s, " | ", "\n") + "\n")
	if spot != (api.Spot{}) {
		t.Fatalf("Read of %q: %v", s, spot)
	}
	return p
}

// line is the instruction of a line, in a program with as many registers as may be.
func line(t *testing.T, s string) api.Instr {
	t.Helper()
	return read(t, "in 1 regs 128 | "+s+" | out r0").Code[0]
}

// show is a program as a failing test tells it: not all of a long one.
func show(p api.Prog) string {
	code, outs := p.Code[:min(len(p.Code), 30)], p.Outs[:min(len(p.Outs), 20)]
	return fmt.Sprintf("(in %d regs %d, %d instructions %v, %d outs %v)", p.Ins, p.Regs, len(p.Code), code, len(p.Outs), outs)
}

// alike tells whether both have the same numbers and the same lists, by no call of the project.
func alike(p, q api.Prog) bool {
	return p.Ins == q.Ins && p.Regs == q.Regs && slices.Equal(p.Code, q.Code) && slices.Equal(p.Outs, q.Outs)
}

// times is an instruction, so often.
func times(n int, i api.Instr) []api.Instr { return slices.Repeat([]api.Instr{i}, n) }

// alone is a program of one input, and of these instructions on two registers; it answers both.
func alone(code ...api.Instr) api.Prog {
	return api.Prog{Ins: 1, Regs: 2, Code: code, Outs: []int{0, 1}}
}

// constants are those that an operation may have, rising.
func constants(op int) []int {
	var l []int
	switch op {
	case move, neg, add, sub:
		l = []int{0}
	case mul, div:
		for c := -mostConst; c <= mostConst; c++ {
			if c != 0 {
				l = append(l, c)
			}
		}
	case shl, shr:
		for c := 1; c <= mostShift; c++ {
			l = append(l, c)
		}
	}
	return l
}

// edges are constants of an operation at which something turns.
func edges(op int) []int {
	switch op {
	case mul, div:
		return []int{-512, -511, -256, -6, -4, -3, -2, -1, 1, 2, 3, 4, 6, 170, 256, 511, 512}
	case shl, shr:
		return []int{1, 2, 31, 32, 33, 63, 64}
	}
	return []int{0}
}

// extremes are numbers at which something wraps round, or that no limit lets through.
func extremes() []int {
	return []int{math.MinInt, math.MinInt + 1, -1 << 32, -1 << 16, -1 << 8, 1 << 8, 1 << 16, 1 << 32, 1<<32 + 1, math.MaxInt - 1, math.MaxInt}
}

// stray are instructions that may be in no program.
func stray() []api.Instr {
	l := []api.Instr{{}}
	for _, n := range append(extremes(), -1, mostRegs, mostRegs+1) {
		for op := move; op <= shr; op++ {
			c := constants(op)[0]
			l = append(l, in(op, n, 0, 0, c), in(op, 0, n, 0, c), in(op, 0, 0, n, c), in(op, n, n, 0, c), in(op, n, n, n, c))
		}
	}
	for _, op := range append(extremes(), -1, 0, 9, 10) {
		l = append(l, in(op, 0, 0, 0, 0), in(op, 0, 0, 0, 1), in(op, 1, 0, 0, 3))
	}
	for op := move; op <= shr; op++ {
		for _, c := range append(extremes(), -513, -512, -65, -64, -2, -1, 0, 1, 2, 64, 65, 512, 513, 1024) {
			if !slices.Contains(constants(op), c) {
				l = append(l, in(op, 1, 0, 0, c), in(op, 1, 1, 0, c), in(op, 127, 127, 0, c))
			}
		}
		if op != add && op != sub {
			c := constants(op)[0]
			l = append(l, in(op, 1, 0, 1, c), in(op, 1, 1, 1, c), in(op, 0, 0, 127, c), in(op, 0, 0, -1, c))
		}
	}
	return l
}

// wrong are programs that may not be, of each kind.
func wrong() []api.Prog {
	var l []api.Prog
	mend := func(f func(p *api.Prog)) {
		p := api.Prog{Ins: 2, Regs: 3, Code: []api.Instr{in(mul, 2, 0, 0, 4), in(div, 2, 2, 0, 2)}, Outs: []int{2, 0}}
		f(&p)
		l = append(l, p)
	}
	for _, n := range []int{math.MinInt, -1, 0, 4, mostRegs + 1, math.MaxInt} {
		mend(func(p *api.Prog) { p.Ins = n })
	}
	for _, n := range []int{math.MinInt, -1, 0, 1, mostRegs + 1, math.MaxInt} {
		mend(func(p *api.Prog) { p.Regs = n })
	}
	for _, i := range append(stray(), in(move, 3, 0, 0, 0), in(move, 3, 3, 0, 0), in(mul, 0, 3, 0, 1), in(add, 0, 3, 3, 0), in(add, 0, 0, 3, 0)) {
		mend(func(p *api.Prog) { p.Code = append(p.Code, i) })
		mend(func(p *api.Prog) { p.Code = append([]api.Instr{i}, p.Code...) })
	}
	for _, outs := range [][]int{nil, {}, {-1}, {3}, {2, 0, 3}, {math.MinInt}, {math.MaxInt}, make([]int, mostRegs+1)} {
		mend(func(p *api.Prog) { p.Outs = outs })
	}
	return append(l, api.Prog{}, api.Prog{Regs: 1, Outs: []int{0}}, alone(times(mostCode+1, in(move, 0, 0, 0, 0))...), api.Prog{Ins: 129, Regs: 129, Outs: []int{0}})
}

// powers are the powers of two that are constants above 1, with what they are powers by.
func powers() map[int]int {
	return map[int]int{2: 1, 4: 2, 8: 3, 16: 4, 32: 5, 64: 6, 128: 7, 256: 8, 512: 9}
}

// plainOf is the plain form by the chapter's words, of an instruction that may be.
func plainOf(i api.Instr) api.Instr {
	factor := i.Op == mul || i.Op == div
	m := powers()[i.C]
	switch {
	case factor && i.C == 1:
		return in(move, i.To, i.A, 0, 0)
	case factor && i.C == -1:
		return in(neg, i.To, i.A, 0, 0)
	case i.Op == mul && m > 0:
		return in(shl, i.To, i.A, 0, m)
	case i.Op == div && m > 0:
		return in(shr, i.To, i.A, 0, m)
	case i.Op == add && i.A == i.B:
		return in(shl, i.To, i.A, 0, 1)
	}
	return i
}

// does is an operation with its constant; none, where the operation is 0.
type does struct{ op, c int }

// table is the chapter's table but for its first line: what comes of a's constant and b's, by both sorts.
func table() map[[2]int]func(c, d int) does {
	within := func(op, n, most int) does {
		if n < -most || n > most {
			return does{}
		}
		return does{op, n}
	}
	quotients := map[[2]int]int{} // of each constant and one that divides it
	for n := 1; n <= mostConst; n++ {
		for d := 1; n*d <= mostConst; d++ {
			quotients[[2]int{n * d, d}], quotients[[2]int{-n * d, -d}] = n, n
			quotients[[2]int{n * d, -d}], quotients[[2]int{-n * d, d}] = -n, -n
		}
	}
	return map[[2]int]func(c, d int) does{
		{neg, move}: func(c, d int) does { return does{neg, 0} },
		{neg, neg}:  func(c, d int) does { return does{move, 0} },
		{neg, mul}:  func(c, d int) does { return does{mul, -d} },
		{mul, neg}:  func(c, d int) does { return does{mul, -c} },
		{mul, mul}:  func(c, d int) does { return within(mul, c*d, mostConst) },
		{mul, div}: func(c, d int) does {
			if n, ok := quotients[[2]int{c, d}]; ok {
				return does{mul, n}
			}
			if n, ok := quotients[[2]int{d, c}]; ok {
				return does{div, n}
			}
			return does{}
		},
		{div, neg}: func(c, d int) does { return does{div, -c} },
		{neg, div}: func(c, d int) does { return does{div, -d} },
		{div, div}: func(c, d int) does { return within(div, c*d, mostConst) },
		{shl, shl}: func(c, d int) does { return within(shl, c+d, mostShift) },
		{shr, shr}: func(c, d int) does { return within(shr, c+d, mostShift) },
		{shl, shr}: func(c, d int) does { return []does{{shr, d - c}, {move, 0}, {shl, c - d}}[1+sign(c-d)] },
	}
}

// sign is -1, 0 or 1.
func sign(n int) int { return big.NewInt(int64(n)).Sign() }

// melter tells what comes of two instructions; it keeps the table.
type melter map[[2]int]func(c, d int) does

// meltOf is what comes of two plain forms that may be, by the chapter's words, and whether they melt.
func (m melter) meltOf(a, b api.Instr) (api.Instr, bool) {
	if b.Op == add || b.Op == sub || b.A != a.To || b.To != a.To {
		return api.Instr{}, false
	}
	if a.Op == move {
		return plainOf(in(b.Op, a.To, a.A, 0, b.C)), true
	}
	if rule := m[[2]int{a.Op, b.Op}]; rule != nil {
		if comes := rule(a.C, b.C); comes.op != 0 {
			return plainOf(in(comes.op, a.To, a.A, 0, comes.c)), true
		}
	}
	return api.Instr{}, false
}

// settle lays b behind a list by the chapter's words; it also tells how often something melted.
func (m melter) settle(list []api.Instr, b api.Instr) ([]api.Instr, int) {
	if b.Op == move && b.To == b.A {
		return list, 0
	}
	if len(list) > 0 {
		rest, last := list[:len(list)-1], list[len(list)-1]
		if one, ok := m.meltOf(last, b); ok {
			list, n := m.settle(rest, one)
			return list, n + 1
		}
	}
	return append(slices.Clip(list), b), 0
}

// passOf is what the pass makes of a program that may be, by the chapter's words, and the most that one instruction of it melted.
func (m melter) passOf(p api.Prog) (api.Prog, int) {
	q := api.Prog{Ins: p.Ins, Regs: p.Regs, Outs: slices.Clone(p.Outs)}
	most := 0
	for _, i := range p.Code {
		list, n := m.settle(q.Code, plainOf(i))
		q.Code = list
		most = max(most, n)
	}
	return q, most
}

// result is what an instruction sets, of what it asks, as the table of chapter 8 says; nil, if it fails.
func result(i api.Instr, a, b *big.Int) *big.Int {
	by := big.NewInt(int64(i.C))
	if i.Op == shl || i.Op == shr {
		by = new(big.Int).Lsh(big.NewInt(1), uint(i.C))
	}
	switch v := new(big.Int); i.Op {
	case move:
		return v.Set(a)
	case neg:
		return v.Neg(a)
	case add:
		return v.Add(a, b)
	case sub:
		return v.Sub(a, b)
	case mul, shl:
		return v.Mul(a, by)
	case div, shr:
		if _, rest := v.QuoRem(a, by, new(big.Int)); rest.Sign() == 0 {
			return v
		}
	}
	return nil
}

// maker makes the same numbers in every run: a shift register, so that a test that fails does so again.
type maker uint64

func (m *maker) next() uint32 {
	*m ^= *m << 13
	*m ^= *m >> 7
	*m ^= *m << 17
	return uint32(*m >> 16)
}

// below is a number from 0 to below n.
func (m *maker) below(n int) int { return int(m.next() % uint32(n)) }

// one is one of a list.
func (m *maker) one(l ...int) int { return l[m.below(len(l))] }

// constant is one that an operation may have, mostly one that melts with others.
func (m *maker) constant(op int) int {
	switch op {
	case mul, div:
		small := m.one(1, 2, 3, 4, 5, 6, 9, 12, 15, 20, 27, 30, 64, 170, 256, 510, mostConst, 1+m.below(mostConst))
		return small * m.one(1, -1)
	case shl, shr:
		return m.one(1, 1, 2, 3, 5, 31, 32, mostShift-1, mostShift, 1+m.below(mostShift))
	}
	return 0
}

// instr is an instruction that may be in a program of so many registers; half of them ask and set the register that the last one set.
func (m *maker) instr(regs, last int) api.Instr {
	i := in(1+m.below(8), m.below(regs), m.below(regs), 0, 0)
	i.C = m.constant(i.Op)
	if m.below(4) > 0 {
		i.To = last
	}
	if m.below(4) > 0 {
		i.A = last
	}
	if i.Op == add || i.Op == sub {
		i.B = m.one(i.A, m.below(regs))
	}
	return i
}

// program is one that may be, with this many inputs, outs, registers and instructions.
func (m *maker) program(ins, outs, regs, code int) api.Prog {
	p := api.Prog{Ins: ins, Regs: regs}
	last := m.below(regs)
	for range code {
		i := m.instr(regs, last)
		last = i.To
		p.Code = append(p.Code, i)
	}
	for range outs {
		p.Outs = append(p.Outs, m.below(regs))
	}
	return p
}

// chain is a program all of whose instructions ask and set one register, but for the first one; of some sorts alone, so that they melt again and again.
func (m *maker) chain(code int) api.Prog {
	sorts := [][]int{{mul, div, neg}, {shl, shr}, {mul, div}, {neg, shl, div, shr}, {move, neg, mul, div, shl, shr}, {div, shr, neg}}[m.below(6)]
	p := api.Prog{Ins: 2, Regs: 3, Outs: []int{2, 1}}
	for k := range code {
		i := in(m.one(sorts...), 2, 2, 0, 0)
		if k == 0 {
			i.A = m.below(3)
		}
		i.C = m.constant(i.Op)
		p.Code = append(p.Code, i)
	}
	return p
}

// some are n programs that may be, drawn at random, chains among them, and a few that are set by hand.
func some(n int) []api.Prog {
	m := maker(2463534242)
	l := []api.Prog{alone(), alone(in(move, 0, 0, 0, 0)), alone(in(neg, 1, 0, 0, 0), in(move, 1, 1, 0, 0)), {Ins: 128, Regs: 128, Outs: make([]int, 128)}}
	for k := range n {
		ins := 1 + m.below(3)
		regs := []int{ins, ins + 1, ins + 3, mostRegs}[k%4]
		l = append(l, m.program(ins, 1+m.below(4), regs, k%23), m.chain(k%29))
	}
	return l
}

// numbers are n numbers, below 0 and above, some of them 0, most of them with many divisors.
func (m *maker) numbers(n int) []*big.Int {
	common := big.NewInt(1)
	for _, prime := range []int64{2, 3, 5, 17} {
		most := int64(m.one(0, 1, 4, 12))
		common.Mul(common, new(big.Int).Exp(big.NewInt(prime), big.NewInt(most), nil))
	}
	common.Lsh(common, uint(m.one(0, 1, 8, 70, 300)))
	l := make([]*big.Int, n)
	for k := range l {
		l[k] = big.NewInt(int64(m.next()) - 1<<31)
		if m.below(5) == 0 {
			l[k].SetInt64(int64(m.below(5) - 2))
		}
		l[k].Mul(l[k], common)
	}
	return l
}

// integers are the Ints of numbers of another make.
func integers(t *testing.T, l []*big.Int) []integer.Int {
	t.Helper()
	numbers := make([]integer.Int, len(l))
	for k, v := range l {
		x, spot := integer.Read(v.String())
		if spot != (api.Spot{}) {
			t.Fatalf("Read of %v: %v", v, spot)
		}
		numbers[k] = x
	}
	return numbers
}

// told is a row, a blank between two numbers.
func told(l []integer.Int) string {
	var texts []string
	for _, x := range l {
		texts = append(texts, x.Text())
	}
	return strings.Join(texts, " ")
}

// toldAll is rows, parted by semicolons.
func toldAll(rows [][]integer.Int) string {
	var texts []string
	for _, l := range rows {
		texts = append(texts, told(l))
	}
	return strings.Join(texts, "; ")
}
