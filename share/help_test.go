package share_test

import (
	"fmt"
	"math"
	"math/big"
	"slices"
	"strings"
	"testing"

	"swage/api"
	"swage/integer"
	"swage/prog"
)

// The limits, as the document tells them.
const (
	mostRegs  = 128
	mostCode  = 16384
	mostConst = 512
	mostShift = 64
)

// The operations, by their numbers.
const (
	move = iota + 1
	neg
	add
	sub
	mul
	div
	shl
	shr
)

// in is an instruction: its operation, what it sets, what it asks, its constant.
func in(op, to, a, b, c int) api.Instr { return api.Instr{Op: op, To: to, A: a, B: b, C: c} }

// read is the program of a text whose lines are parted by bars.
func read(t *testing.T, s string) api.Prog {
	t.Helper()
	p, spot := prog.Read(strings.ReplaceAll(s, " | ", "\n") + "\n")
	if spot != (api.Spot{}) {
		t.Fatalf("Read of %q: %v", s, spot)
	}
	return p
}

// show is a program as a failing test tells it: not all of a long one.
func show(p api.Prog) string {
	code, outs := p.Code[:min(len(p.Code), 30)], p.Outs[:min(len(p.Outs), 20)]
	return fmt.Sprintf("(in %d regs %d, %d instructions %v, %d outs %v)", p.Ins, p.Regs, len(p.Code), code, len(p.Outs), outs)
}

// alike tells whether both have the same numbers and the same lists, by no call of the project.
func alike(p, q api.Prog) bool {
	return p.Ins == q.Ins && p.Regs == q.Regs && slices.Equal(p.Code, q.Code) && slices.Equal(p.Outs, q.Outs)
}

// times is an instruction, so often.
func times(n int, i api.Instr) []api.Instr { return slices.Repeat([]api.Instr{i}, n) }

// alone is a program of one input, and of these instructions on two registers; it answers both.
func alone(code ...api.Instr) api.Prog {
	return api.Prog{Ins: 1, Regs: 2, Code: code, Outs: []int{0, 1}}
}

// asksBoth tells whether an operation asks B beside A.
func asksBoth(op int) bool { return op == add || op == sub }

// constants are some that an operation may have, the edges among them.
func constants(op int) []int {
	switch op {
	case mul, div:
		return []int{-mostConst, -3, -2, -1, 1, 2, 3, mostConst}
	case shl, shr:
		return []int{1, 2, 3, mostShift}
	}
	return []int{0}
}

// stray are instructions that may be in no program.
func stray() []api.Instr {
	far := []int{math.MinInt, -1 << 32, -1, mostRegs, mostRegs + 1, 1 << 32, math.MaxInt}
	l := []api.Instr{{}}
	for op := move; op <= shr; op++ {
		c := constants(op)[0]
		for _, n := range far {
			l = append(l, in(op, n, 0, 0, c), in(op, 0, n, 0, c), in(op, 0, 0, n, c), in(op, n, n, n, c))
		}
		for _, c := range []int{math.MinInt, -513, -64, 0, 1, 65, 513, math.MaxInt} {
			switch {
			case (op == mul || op == div) && (c == -64 || c == 1 || c == 65), (op == shl || op == shr) && c == 1, op < mul && c == 0:
			default:
				l = append(l, in(op, 1, 0, 0, c))
			}
		}
		if !asksBoth(op) {
			l = append(l, in(op, 1, 0, 1, c), in(op, 1, 1, 1, c))
		}
	}
	for _, op := range []int{math.MinInt, -1, 0, 9, 1<<32 + 1, math.MaxInt} {
		l = append(l, in(op, 0, 0, 0, 0), in(op, 1, 0, 0, 3), in(op, 1, 0, 1, 0))
	}
	return l
}

// wrong are programs that may not be, of each kind.
func wrong() []api.Prog {
	var l []api.Prog
	mend := func(f func(p *api.Prog)) {
		p := api.Prog{Ins: 2, Regs: 3, Code: []api.Instr{in(add, 2, 0, 1, 0), in(add, 1, 1, 0, 0)}, Outs: []int{2, 1}}
		f(&p)
		l = append(l, p)
	}
	for _, n := range []int{math.MinInt, -1, 0, 4, mostRegs + 1, math.MaxInt} {
		mend(func(p *api.Prog) { p.Ins = n })
	}
	for _, n := range []int{math.MinInt, -1, 0, 1, mostRegs + 1, math.MaxInt} {
		mend(func(p *api.Prog) { p.Regs = n })
	}
	for _, i := range append(stray(), in(move, 3, 0, 0, 0), in(move, 3, 3, 0, 0), in(mul, 0, 3, 0, 1), in(add, 0, 3, 3, 0), in(add, 0, 0, 3, 0)) {
		mend(func(p *api.Prog) { p.Code = append(p.Code, i) })
		mend(func(p *api.Prog) { p.Code = append([]api.Instr{i}, p.Code...) })
	}
	for _, outs := range [][]int{nil, {}, {-1}, {3}, {2, 0, 3}, {math.MinInt}, {math.MaxInt}, make([]int, mostRegs+1)} {
		mend(func(p *api.Prog) { p.Outs = outs })
	}
	return append(l, api.Prog{}, api.Prog{Regs: 1, Outs: []int{0}}, alone(times(mostCode+1, in(move, 0, 0, 0, 0))...), api.Prog{Ins: 129, Regs: 129, Outs: []int{0}})
}

// thing is a value: two are the same, if they are one thing, not if they have one number.
type thing struct{ number int }

// step is what an instruction meets and does, by the chapter's words.
type step struct {
	held  []*thing // of each register, ahead of the instruction
	a, b  *thing   // what it asks; b is nil where B is not asked
	sets  *thing
	first int // the first instruction with its key; -1 of an OpMove, which has none
}

// walk goes through a program that may be by the chapter's words; it also tells what the registers hold at the end.
func walk(p api.Prog) ([]step, []*thing) {
	nought := &thing{p.Ins}
	held := slices.Repeat([]*thing{nought}, p.Regs)
	for r := range p.Ins {
		held[r] = &thing{r}
	}
	var steps []step
	next := p.Ins + 1
	for k, i := range p.Code {
		s := step{held: slices.Clone(held), a: held[i.A], sets: held[i.A], first: -1}
		if asksBoth(i.Op) {
			s.b = held[i.B]
		}
		if i.Op != move {
			s.first = firstWith(p.Code, steps, i, s)
			if s.first < k {
				s.sets = steps[s.first].sets
			} else {
				s.sets = &thing{next}
				next++
			}
		}
		steps = append(steps, s)
		held[i.To] = s.sets
	}
	return steps, held
}

// firstWith is the number of the first instruction with the key of i, which has the step s behind these: they are all held against it, one by one.
func firstWith(code []api.Instr, steps []step, i api.Instr, s step) int {
	for k, o := range steps {
		one := o.a == s.a && o.b == s.b || i.Op == add && o.a == s.b && o.b == s.a
		if one && code[k].Op == i.Op && code[k].C == i.C {
			return k
		}
	}
	return len(steps)
}

// holder is the register with the least number that holds a value, -1, if none does.
func holder(held []*thing, v *thing) int {
	least := -1
	for r := len(held) - 1; r >= 0; r-- {
		if held[r] == v {
			least = r
		}
	}
	return least
}

// tally is how often something became of an instruction, or of an out.
type tally struct {
	out, copied, renamed, kept, lost, outs int
}

// passOf is what the pass makes of a program that may be, by the chapter's words.
func passOf(p api.Prog, n *tally) api.Prog {
	q := api.Prog{Ins: p.Ins, Regs: p.Regs}
	steps, end := walk(p)
	for k, s := range steps {
		i := p.Code[k]
		was := i
		i.A = holder(s.held, s.a)
		if asksBoth(i.Op) {
			i.B = holder(s.held, s.b)
		}
		if s.held[i.To] == s.sets {
			n.out++
			continue
		}
		if r := holder(s.held, s.sets); r >= 0 {
			i = in(move, i.To, r, 0, 0)
			n.copied++
		} else {
			n.kept++
			if was != i {
				n.renamed++
			}
			if s.first < k {
				n.lost++
			}
		}
		q.Code = append(q.Code, i)
	}
	for _, r := range p.Outs {
		q.Outs = append(q.Outs, holder(end, end[r]))
		if q.Outs[len(q.Outs)-1] != r {
			n.outs++
		}
	}
	return q
}

// valuesOf are the numbers of the values that instructions reckon, by the chapter's words.
func valuesOf(p api.Prog) []int {
	var l []int
	steps, _ := walk(p)
	for _, s := range steps {
		l = append(l, s.sets.number)
	}
	return l
}

// twiceOf are the instructions whose key came up ahead of them, with the first one of it, by the chapter's words.
func twiceOf(p api.Prog) [][2]int {
	var l [][2]int
	steps, _ := walk(p)
	for k, s := range steps {
		if s.first >= 0 && s.first < k {
			l = append(l, [2]int{k, s.first})
		}
	}
	return l
}

// maker makes the same numbers in every run: a shift register, so that a test that fails does so again.
type maker uint64

func (m *maker) next() uint32 {
	*m ^= *m << 13
	*m ^= *m >> 7
	*m ^= *m << 17
	return uint32(*m >> 16)
}

// below is a number from 0 to below n.
func (m *maker) below(n int) int { return int(m.next() % uint32(n)) }

// one is one of a list.
func (m *maker) one(l ...int) int { return l[m.below(len(l))] }

// instr is an instruction that may be in a program of so many registers, on some of these alone, and with few constants, so that keys come up again.
func (m *maker) instr(regs []int) api.Instr {
	i := in(m.one(move, move, neg, add, add, sub, sub, mul, mul, div, div, shl, shr, shr), m.one(regs...), m.one(regs...), 0, 0)
	switch i.Op {
	case add, sub:
		i.B = m.one(regs...)
	case mul, div:
		i.C = m.one(3, 3, -1, 2, 1)
	case shl, shr:
		i.C = m.one(1, 1, 2)
	}
	return i
}

// used are a few registers of so many, the first and the last one among them.
func (m *maker) used(regs int) []int {
	l := []int{0, regs - 1}
	for range 1 + m.below(5) {
		l = append(l, m.below(regs))
	}
	return l
}

// program is one that may be, with this many inputs, outs, registers and instructions.
func (m *maker) program(ins, outs, regs, code int) api.Prog {
	p := api.Prog{Ins: ins, Regs: regs}
	used := m.used(regs)
	for range code {
		p.Code = append(p.Code, m.instr(used))
	}
	for range outs {
		p.Outs = append(p.Outs, m.one(used...))
	}
	return p
}

// again is a program whose instructions are a few ones, drawn again and again, so that keys come up again when their values were lost.
func (m *maker) again(code int) api.Prog {
	ins := 1 + m.below(3)
	p := api.Prog{Ins: ins, Regs: ins + m.below(3), Outs: make([]int, 1+m.below(6))}
	var few []api.Instr
	for range 2 + m.below(4) {
		few = append(few, m.instr(m.used(p.Regs)))
	}
	for range code {
		p.Code = append(p.Code, few[m.below(len(few))])
	}
	for k := range p.Outs {
		p.Outs[k] = m.below(p.Regs)
	}
	return p
}

// some are n programs of each of two kinds that may be, drawn at random, and a few that are set by hand.
func some(n int) []api.Prog {
	m := maker(2463534242)
	l := []api.Prog{alone(), alone(in(move, 0, 0, 0, 0)), alone(in(neg, 1, 0, 0, 0), in(neg, 0, 0, 0, 0)), {Ins: 128, Regs: 128, Outs: make([]int, 128)}}
	for k := range n {
		ins := 1 + m.below(3)
		regs := []int{ins, ins + 1, ins + 3, mostRegs}[k%4]
		l = append(l, m.program(ins, 1+m.below(4), regs, k%31), m.again(k%23))
	}
	return l
}

// numbers are n numbers, below 0 and above, some of them 0, some with many divisors.
func (m *maker) numbers(n int) []*big.Int {
	common := big.NewInt(1)
	for _, prime := range []int64{2, 3} {
		most := int64(m.one(0, 0, 1, 4, 12))
		common.Mul(common, new(big.Int).Exp(big.NewInt(prime), big.NewInt(most), nil))
	}
	common.Lsh(common, uint(m.one(0, 0, 0, 70)))
	l := make([]*big.Int, n)
	for k := range l {
		l[k] = big.NewInt(int64(m.next()) - 1<<31)
		if m.below(5) == 0 {
			l[k].SetInt64(int64(m.below(5) - 2))
		}
		l[k].Mul(l[k], common)
	}
	return l
}

// integers are the Ints of numbers of another make.
func integers(t *testing.T, l []*big.Int) []integer.Int {
	t.Helper()
	numbers := make([]integer.Int, len(l))
	for k, v := range l {
		x, spot := integer.Read(v.String())
		if spot != (api.Spot{}) {
			t.Fatalf("Read of %v: %v", v, spot)
		}
		numbers[k] = x
	}
	return numbers
}

// told is a row, a blank between two numbers.
func told(l []integer.Int) string {
	var texts []string
	for _, x := range l {
		texts = append(texts, x.Text())
	}
	return strings.Join(texts, " ")
}

// toldAll is rows, parted by semicolons.
func toldAll(rows [][]integer.Int) string {
	var texts []string
	for _, l := range rows {
		texts = append(texts, told(l))
	}
	return strings.Join(texts, "; ")
}
