package denote_test

import (
	"encoding/binary"
	"fmt"
	"math"
	"math/big"
	"slices"
	"strings"
	"testing"

	"swage/api"
	"swage/integer"
	"swage/matrix"
	"swage/prog"
	"swage/ratio"
)

// The limits, as the document tells them.
const (
	mostBits  = 65536
	mostSize  = 16
	mostRegs  = 128
	mostCode  = 16384
	mostConst = 512
	mostShift = 64
)

// The operations, by their numbers.
const (
	move = iota + 1
	neg
	add
	sub
	mul
	div
	shl
	shr
)

// in is an instruction: its operation, what it sets, what it asks, its constant.
func in(op, to, a, b, c int) api.Instr { return api.Instr{Op: op, To: to, A: a, B: b, C: c} }

// read is the program of a text whose lines are parted by bars.
func read(t *testing.T, s string) api.Prog {
	t.Helper()
	p, spot := prog.Read(strings.ReplaceAll(s, " | ", "\n") + "\n")
	if spot != (api.Spot{}) {
		t.Fatalf("Read of %q: %v", s, spot)
	}
	return p
}

// example is P of the chapter, put together by hand.
func example() api.Prog {
	return api.Prog{Ins: 2, Regs: 3, Code: []api.Instr{in(sub, 2, 0, 1, 0), in(div, 2, 2, 0, 2)}, Outs: []int{2, 0}}
}

// plain is a program without instructions, which answers its first registers.
func plain(ins, regs, outs int) api.Prog {
	p := api.Prog{Ins: ins, Regs: regs, Outs: make([]int, outs)}
	for k := range p.Outs {
		p.Outs[k] = k % regs
	}
	return p
}

// alone is a program of one input, and of these instructions on two registers; it answers both.
func alone(code ...api.Instr) api.Prog {
	return api.Prog{Ins: 1, Regs: 2, Code: code, Outs: []int{0, 1}}
}

// times is an instruction, so often.
func times(n int, i api.Instr) []api.Instr { return slices.Repeat([]api.Instr{i}, n) }

// shifted are instructions that shift r0 by n bits in all.
func shifted(op, n int) []api.Instr {
	code := times(n/mostShift, in(op, 0, 0, 0, mostShift))
	if n%mostShift > 0 {
		code = append(code, in(op, 0, 0, 0, n%mostShift))
	}
	return code
}

// show is a program as a failing test tells it: not all of a long one.
func show(p api.Prog) string {
	code, outs := p.Code[:min(len(p.Code), 20)], p.Outs[:min(len(p.Outs), 20)]
	return fmt.Sprintf("(in %d regs %d, %d instructions %v, %d outs %v)", p.Ins, p.Regs, len(p.Code), code, len(p.Outs), outs)
}

// of is a small whole number.
func of(n int64) integer.Int { return integer.Of(n) }

// list is a list of small whole numbers.
func list(l ...int64) []integer.Int {
	var numbers []integer.Int
	for _, n := range l {
		numbers = append(numbers, of(n))
	}
	return numbers
}

// told is a row of fractions, a blank between two; not all of a long one.
func told(l []ratio.Rat) string {
	var texts []string
	for _, x := range l {
		texts = append(texts, value(x).RatString())
	}
	s := strings.Join(texts, " ")
	return s[:min(len(s), 2000)]
}

// toldAll is rows of fractions, parted by semicolons.
func toldAll(rows [][]ratio.Rat) string {
	var texts []string
	for _, l := range rows {
		texts = append(texts, told(l))
	}
	return strings.Join(texts, "; ")
}

// grid is the matrix of a text, which must be one; of [] it is none.
func grid(t *testing.T, text string) matrix.Matrix {
	t.Helper()
	if text == "[]" {
		return matrix.Matrix{}
	}
	m, spot := matrix.Read(text)
	if spot != (api.Spot{}) {
		t.Fatalf("Read of %q: %v", text, spot)
	}
	return m
}

// number is what an Int says by its limbs.
func number(x integer.Int) *big.Int {
	below, limbs := x.Limbs()
	bytes := make([]byte, 4*len(limbs))
	for k, part := range limbs {
		binary.BigEndian.PutUint32(bytes[4*(len(limbs)-1-k):], part)
	}
	v := new(big.Int).SetBytes(bytes)
	if below {
		v.Neg(v)
	}
	return v
}

// integers are the Ints of numbers of another make.
func integers(l []*big.Int) []integer.Int {
	numbers := make([]integer.Int, len(l))
	for k, v := range l {
		bytes := v.FillBytes(make([]byte, (v.BitLen()+31)/32*4))
		limbs := make([]uint32, len(bytes)/4)
		for j := range limbs {
			limbs[len(limbs)-1-j] = binary.BigEndian.Uint32(bytes[4*j:])
		}
		numbers[k] = integer.Make(v.Sign() < 0, limbs)
	}
	return numbers
}

// value is what a Rat says by Num and Den; of a Den that may not be, 0.
func value(x ratio.Rat) *big.Rat {
	if x.Den().Sign() == 0 {
		return new(big.Rat)
	}
	return new(big.Rat).SetFrac(number(x.Num()), number(x.Den()))
}

// says tells whether a Rat is a number, in lowest terms.
func says(x ratio.Rat, v *big.Rat) bool {
	return number(x.Num()).Cmp(v.Num()) == 0 && number(x.Den()).Cmp(v.Denom()) == 0
}

// sayAll tells whether Rats are these numbers, and as many.
func sayAll(l []ratio.Rat, want []*big.Rat) bool { return slices.EqualFunc(l, want, says) }

// wholes are whole numbers as fractions.
func wholes(l []*big.Int) []*big.Rat {
	rats := make([]*big.Rat, len(l))
	for k, v := range l {
		rats[k] = new(big.Rat).SetInt(v)
	}
	return rats
}

// result is what an instruction sets, of what it asks, as the table of chapter 8 says.
func result(i api.Instr, a, b *big.Rat) *big.Rat {
	v, c := new(big.Rat), big.NewRat(int64(i.C), 1)
	power := new(big.Rat).SetInt(new(big.Int).Lsh(big.NewInt(1), uint(i.C&127)))
	switch i.Op {
	case move:
		v.Set(a)
	case neg:
		v.Neg(a)
	case add:
		v.Add(a, b)
	case sub:
		v.Sub(a, b)
	case mul:
		v.Mul(a, c)
	case div:
		v.Quo(a, c)
	case shl:
		v.Mul(a, power)
	case shr:
		v.Quo(a, power)
	}
	return v
}

// trace is what each instruction sets, and what the outs hold at the end, of a program run with these inputs.
func trace(p api.Prog, ins []*big.Rat) (set, outs []*big.Rat) {
	regs := make([]*big.Rat, p.Regs)
	for r := range regs {
		regs[r] = new(big.Rat)
	}
	copy(regs, ins)
	for _, i := range p.Code {
		regs[i.To] = result(i, regs[i.A], regs[i.B])
		set = append(set, regs[i.To])
	}
	for _, r := range p.Outs {
		outs = append(outs, regs[r])
	}
	return set, outs
}

// narrow is how many of these stand ahead of the first one that is too wide.
func narrow(l []*big.Rat) int {
	wide := slices.IndexFunc(l, func(v *big.Rat) bool { return v.Num().BitLen() > mostBits || v.Denom().BitLen() > mostBits })
	if wide < 0 {
		return len(l)
	}
	return wide
}

// meaning is what a program denotes: the outs' rows, the rows that its instructions set, and how many instructions stand ahead of the first one that is too wide.
type meaning struct {
	rows, steps [][]*big.Rat
	narrow      int
}

// meant is a program's meaning column by column: each is a run in which one input is 1, all others are 0.
func meant(p api.Prog) meaning {
	m := meaning{make([][]*big.Rat, len(p.Outs)), make([][]*big.Rat, len(p.Code)), len(p.Code)}
	for j := range p.Ins {
		ins := wholes(slices.Repeat([]*big.Int{new(big.Int)}, p.Ins))
		ins[j] = big.NewRat(1, 1)
		set, outs := trace(p, ins)
		m.narrow = min(m.narrow, narrow(set))
		for k, v := range set {
			m.steps[k] = append(m.steps[k], v)
		}
		for k, v := range outs {
			m.rows[k] = append(m.rows[k], v)
		}
	}
	return m
}

// maker makes the same numbers in every run: a shift register, so that a test that fails does so again.
type maker uint64

func (m *maker) next() uint32 {
	*m ^= *m << 13
	*m ^= *m >> 7
	*m ^= *m << 17
	return uint32(*m >> 16)
}

// below is a number from 0 to below n.
func (m *maker) below(n int) int { return int(m.next() % uint32(n)) }

// instr is an instruction that may be in a program of so many registers.
func (m *maker) instr(regs int) api.Instr {
	i := in(1+m.below(8), m.below(regs), m.below(regs), 0, 0)
	switch i.Op {
	case add, sub:
		i.B = m.below(regs)
	case mul, div:
		i.C = []int{1, -1, 2, 3, -5, mostConst, -mostConst, 1 + m.below(mostConst)}[m.below(8)]
	case shl, shr:
		i.C = []int{1, 2, mostShift, 1 + m.below(mostShift)}[m.below(4)]
	}
	return i
}

// program is one that may be, with this many inputs, outs, registers and instructions.
func (m *maker) program(ins, outs, regs, code int) api.Prog {
	p := api.Prog{Ins: ins, Regs: regs}
	for range code {
		p.Code = append(p.Code, m.instr(regs))
	}
	for range outs {
		p.Outs = append(p.Outs, m.below(regs))
	}
	return p
}

// numbers are n numbers, below 0 and above, some of them of several limbs, some of them 0.
func (m *maker) numbers(n int) []*big.Int {
	l := make([]*big.Int, n)
	for k := range l {
		l[k] = big.NewInt(int64(m.next()) - 1<<31)
		switch m.below(4) {
		case 0:
			l[k].Mul(l[k], new(big.Int).Lsh(big.NewInt(int64(m.next())), 90))
		case 1:
			l[k].SetInt64(int64(m.below(5) - 2))
		}
	}
	return l
}

// some are n programs that may be, and a few that are set by hand.
func some(n int) []api.Prog {
	m := maker(2463534242)
	l := []api.Prog{example(), plain(1, 1, 1), plain(1, 5, 5), plain(3, 4, 8), alone(in(shr, 1, 0, 0, 64), in(add, 1, 1, 0, 0))}
	for k := range n {
		ins := 1 + m.below(4)
		regs := ins + m.below(4)
		l = append(l, m.program(ins, 1+m.below(4), regs, k%17))
	}
	return l
}

// wrong are programs that may not be, of each kind.
func wrong() []api.Prog {
	var l []api.Prog
	mend := func(f func(p *api.Prog)) {
		p := example()
		f(&p)
		l = append(l, p)
	}
	for _, n := range []int{math.MinInt, -1, 0, 4, mostRegs + 1, math.MaxInt} {
		mend(func(p *api.Prog) { p.Ins = n })
	}
	for _, n := range []int{math.MinInt, -1, 0, 1, mostRegs + 1, math.MaxInt} {
		mend(func(p *api.Prog) { p.Regs = n })
	}
	for _, i := range []api.Instr{{}, in(9, 0, 0, 0, 0), in(move, 3, 0, 0, 0), in(move, 0, -1, 0, 0), in(sub, 0, 0, 3, 0), in(neg, 0, 0, 1, 0), in(mul, 2, 0, 0, 0), in(div, 2, 0, 0, 0), in(div, 2, 0, 0, 513), in(shl, 0, 0, 0, 65), in(shr, 0, 0, 0, 0), in(shr, 0, 0, 0, math.MinInt), in(add, 0, 0, 0, 1)} {
		mend(func(p *api.Prog) { p.Code = append(p.Code, i) })
		mend(func(p *api.Prog) { p.Code = append([]api.Instr{i}, p.Code...) })
	}
	for _, outs := range [][]int{nil, {}, {-1}, {3}, {2, 0, 3}, {math.MinInt}, {math.MaxInt}, make([]int, mostRegs+1)} {
		mend(func(p *api.Prog) { p.Outs = outs })
	}
	return append(l, api.Prog{}, api.Prog{Regs: 1, Outs: []int{0}}, api.Prog{Ins: 1, Regs: 1, Code: times(mostCode+1, in(move, 0, 0, 0, 0)), Outs: []int{0}}, plain(129, 129, 1))
}

// wide is a program with an instruction that is too wide, and with this many inputs and outs.
func wide(ins, outs int) api.Prog {
	p := plain(ins, ins, outs)
	p.Code = shifted(shl, mostBits)
	return p
}
