package exact_test

import (
	"encoding/binary"
	"fmt"
	"iter"
	"math"
	"math/big"
	"slices"
	"strings"
	"testing"

	"swage/api"
	"swage/integer"
	"swage/prog"
)

// The limits, as the document tells them.
const (
	mostBits   = 65536
	mostCoeffs = 4096
	mostRegs   = 128
	mostCode   = 16384
	mostConst  = 512
	mostShift  = 64
)

// The operations, by their numbers.
const (
	move = iota + 1
	neg
	add
	sub
	mul
	div
	shl
	shr
)

// in is an instruction: its operation, what it sets, what it asks, its constant.
func in(op, to, a, b, c int) api.Instr { return api.Instr{Op: op, To: to, A: a, B: b, C: c} }

// read is the program of a text whose lines are parted by bars.
func read(t *testing.T, s string) api.Prog {
	t.Helper()
	p, spot := prog.Read(strings.ReplaceAll(s, " | ", "\n") + "\n")
	if spot != (api.Spot{}) {
		t.Fatalf("Read of %q: %v", s, spot)
	}
	return p
}

// example is P of the chapter, put together by hand.
func example() api.Prog {
	return api.Prog{Ins: 2, Regs: 3, Code: []api.Instr{in(sub, 2, 0, 1, 0), in(div, 2, 2, 0, 2)}, Outs: []int{2, 0}}
}

// plain is a program without instructions, which answers its first registers.
func plain(ins, regs, outs int) api.Prog {
	p := api.Prog{Ins: ins, Regs: regs, Outs: make([]int, outs)}
	for k := range p.Outs {
		p.Outs[k] = k % regs
	}
	return p
}

// alone is a program of one input, and of these instructions on two registers; it answers both.
func alone(code ...api.Instr) api.Prog {
	return api.Prog{Ins: 1, Regs: 2, Code: code, Outs: []int{0, 1}}
}

// times is an instruction, so often.
func times(n int, i api.Instr) []api.Instr { return slices.Repeat([]api.Instr{i}, n) }

// show is a program as a failing test tells it: not all of a long one.
func show(p api.Prog) string {
	code, outs := p.Code[:min(len(p.Code), 20)], p.Outs[:min(len(p.Outs), 20)]
	return fmt.Sprintf("(in %d regs %d, %d instructions %v, %d outs %v)", p.Ins, p.Regs, len(p.Code), code, len(p.Outs), outs)
}

// of is a small whole number.
func of(n int64) integer.Int { return integer.Of(n) }

// list is a list of small whole numbers.
func list(l ...int64) []integer.Int {
	var numbers []integer.Int
	for _, n := range l {
		numbers = append(numbers, of(n))
	}
	return numbers
}

// bigs is a list of small whole numbers of another make.
func bigs(l ...int64) []*big.Int {
	var numbers []*big.Int
	for _, n := range l {
		numbers = append(numbers, big.NewInt(n))
	}
	return numbers
}

// power is 2 to the n.
func power(n int) *big.Int { return new(big.Int).Lsh(big.NewInt(1), uint(n)) }

// value is what an Int says by its limbs.
func value(x integer.Int) *big.Int {
	below, limbs := x.Limbs()
	bytes := make([]byte, 4*len(limbs))
	for k, part := range limbs {
		binary.BigEndian.PutUint32(bytes[4*(len(limbs)-1-k):], part)
	}
	v := new(big.Int).SetBytes(bytes)
	if below {
		v.Neg(v)
	}
	return v
}

// integers are the Ints of numbers of another make.
func integers(l []*big.Int) []integer.Int {
	numbers := make([]integer.Int, len(l))
	for k, v := range l {
		bytes := v.FillBytes(make([]byte, (v.BitLen()+31)/32*4))
		limbs := make([]uint32, len(bytes)/4)
		for j := range limbs {
			limbs[len(limbs)-1-j] = binary.BigEndian.Uint32(bytes[4*j:])
		}
		numbers[k] = integer.Make(v.Sign() < 0, limbs)
	}
	return numbers
}

// gridOf are the rows of Ints of rows of another make.
func gridOf(l [][]*big.Int) [][]integer.Int {
	var grid [][]integer.Int
	for _, a := range l {
		grid = append(grid, integers(a))
	}
	return grid
}

// blank is a grid of so many rows of noughts.
func blank(rows, columns int) [][]integer.Int {
	grid := make([][]integer.Int, rows)
	for i := range grid {
		grid[i] = make([]integer.Int, columns)
	}
	return grid
}

// says tells whether an Int is a number.
func says(x integer.Int, v *big.Int) bool { return value(x).Cmp(v) == 0 }

// sayAll tells whether Ints are these numbers, and as many.
func sayAll(l []integer.Int, want []*big.Int) bool { return slices.EqualFunc(l, want, says) }

// told is a row, a blank between two numbers; not all of a long one.
func told(l []integer.Int) string {
	var texts []string
	for _, x := range l {
		texts = append(texts, value(x).String())
	}
	s := strings.Join(texts, " ")
	return s[:min(len(s), 2000)]
}

// toldAll is rows, parted by semicolons.
func toldAll(rows [][]integer.Int) string {
	var texts []string
	for _, l := range rows {
		texts = append(texts, told(l))
	}
	return strings.Join(texts, "; ")
}

// toldSteps is what Steps tells, or what Trace tells of one number each.
func toldSteps[T any](steps iter.Seq2[int, T], text func(T) string) string {
	var texts []string
	for k, v := range steps {
		texts = append(texts, fmt.Sprint(k, ": ", text(v)))
	}
	return strings.Join(texts, ", ")
}

// one is a number's text.
func one(x integer.Int) string { return value(x).String() }

// result is what an instruction sets, of what it asks, as the table of chapter 8 says; nil, if it fails.
func result(i api.Instr, a, b *big.Int) *big.Int {
	by := big.NewInt(int64(i.C))
	if i.Op == shl || i.Op == shr {
		by = power(i.C)
	}
	switch v := new(big.Int); i.Op {
	case move:
		return v.Set(a)
	case neg:
		return v.Neg(a)
	case add:
		return v.Add(a, b)
	case sub:
		return v.Sub(a, b)
	case mul, shl:
		return v.Mul(a, by)
	case div, shr:
		if _, rest := v.QuoRem(a, by, new(big.Int)); rest.Sign() == 0 {
			return v
		}
	}
	return nil
}

// course is a run: what each instruction sets, up to the first one that fails, and what the outs hold at the end, if none fails.
type course struct{ set, outs []*big.Int }

// ran is a program's run on numbers.
func ran(p api.Prog, ins []*big.Int) course {
	regs := slices.Repeat([]*big.Int{new(big.Int)}, p.Regs)
	copy(regs, ins)
	var c course
	for _, i := range p.Code {
		v := result(i, regs[i.A], regs[i.B])
		if v == nil {
			return c
		}
		regs[i.To] = v
		c.set = append(c.set, v)
	}
	for _, r := range p.Outs {
		c.outs = append(c.outs, regs[r])
	}
	return c
}

// following is what the rows are of which registers are told: of each instruction ahead of the first one that fails on a column, and of the outs, if none fails.
type following struct{ set, outs [][]*big.Int }

// followed is a program over a grid column by column: each is a run.
func followed(p api.Prog, grid [][]*big.Int) following {
	done := len(p.Code)
	var runs []course
	for j := range grid[0] {
		var ins []*big.Int
		for _, l := range grid {
			ins = append(ins, l[j])
		}
		runs = append(runs, ran(p, ins))
		done = min(done, len(runs[j].set))
	}
	f := following{set: make([][]*big.Int, done)}
	if done == len(p.Code) {
		f.outs = make([][]*big.Int, len(p.Outs))
	}
	for _, c := range runs {
		for k := range f.set {
			f.set[k] = append(f.set[k], c.set[k])
		}
		for k := range f.outs {
			f.outs[k] = append(f.outs[k], c.outs[k])
		}
	}
	return f
}

// widest is the greatest amount of rows, 0 of none.
func widest(rows ...[]*big.Int) *big.Int {
	most := new(big.Int)
	for _, l := range rows {
		for _, v := range l {
			if v.CmpAbs(most) > 0 {
				most = new(big.Int).Abs(v)
			}
		}
	}
	return most
}

// maker makes the same numbers in every run: a shift register, so that a test that fails does so again.
type maker uint64

func (m *maker) next() uint32 {
	*m ^= *m << 13
	*m ^= *m >> 7
	*m ^= *m << 17
	return uint32(*m >> 16)
}

// below is a number from 0 to below n.
func (m *maker) below(n int) int { return int(m.next() % uint32(n)) }

// instr is an instruction that may be in a program of so many registers; most that divide do so by what many numbers are divided by.
func (m *maker) instr(regs int) api.Instr {
	i := in(1+m.below(8), m.below(regs), m.below(regs), 0, 0)
	switch i.Op {
	case add, sub:
		i.B = m.below(regs)
	case mul, div:
		i.C = []int{1, -1, 2, 3, -5, 7, -6, 12, -mostConst, 1 + m.below(mostConst)}[m.below(10)]
	case shl, shr:
		i.C = []int{1, 2, 3, 5, mostShift, 1 + m.below(mostShift)}[m.below(6)]
	}
	return i
}

// program is one that may be, with this many inputs, outs, registers and instructions.
func (m *maker) program(ins, outs, regs, code int) api.Prog {
	p := api.Prog{Ins: ins, Regs: regs}
	for range code {
		p.Code = append(p.Code, m.instr(regs))
	}
	for range outs {
		p.Outs = append(p.Outs, m.below(regs))
	}
	return p
}

// numbers are n numbers, below 0 and above, some of them of several limbs, some of them 0, all of them times the same one.
func (m *maker) numbers(n int, by *big.Int) []*big.Int {
	l := make([]*big.Int, n)
	for k := range l {
		l[k] = big.NewInt(int64(m.next()) - 1<<31)
		switch m.below(4) {
		case 0:
			l[k].Mul(l[k], new(big.Int).Lsh(big.NewInt(int64(m.next())), 90))
		case 1:
			l[k].SetInt64(int64(m.below(5) - 2))
		}
		l[k].Mul(l[k], by)
	}
	return l
}

// factor is a number that many or few others divide.
func (m *maker) factor() *big.Int {
	v := big.NewInt(1)
	for _, prime := range []int64{2, 3, 5, 7, 11} {
		most := []int64{0, 2, 9, 60}[m.below(4)]
		v.Mul(v, new(big.Int).Exp(big.NewInt(prime), big.NewInt(most), nil))
	}
	return v.Lsh(v, uint(m.below(2)*m.below(300)))
}

// grid has so many rows and columns; each column's numbers have a factor of their own.
func (m *maker) grid(rows, columns int) [][]*big.Int {
	grid := make([][]*big.Int, rows)
	common := m.factor()
	for range columns {
		for i, v := range m.numbers(rows, new(big.Int).Mul(common, m.factor())) {
			grid[i] = append(grid[i], v)
		}
	}
	return grid
}

// some are n programs that may be, and a few that are set by hand.
func some(n int) []api.Prog {
	m := maker(2463534242)
	l := []api.Prog{example(), plain(1, 1, 1), plain(1, 5, 5), plain(3, 4, 8), alone(in(shr, 1, 0, 0, 64), in(add, 1, 1, 0, 0))}
	for k := range n {
		ins := 1 + m.below(4)
		regs := ins + m.below(4)
		l = append(l, m.program(ins, 1+m.below(4), regs, k%17))
	}
	return l
}

// wrong are programs that may not be, of each kind.
func wrong() []api.Prog {
	var l []api.Prog
	mend := func(f func(p *api.Prog)) {
		p := example()
		f(&p)
		l = append(l, p)
	}
	for _, n := range []int{math.MinInt, -1, 0, 4, mostRegs + 1, math.MaxInt} {
		mend(func(p *api.Prog) { p.Ins = n })
	}
	for _, n := range []int{math.MinInt, -1, 0, 1, mostRegs + 1, math.MaxInt} {
		mend(func(p *api.Prog) { p.Regs = n })
	}
	for _, i := range []api.Instr{{}, in(9, 0, 0, 0, 0), in(move, 3, 0, 0, 0), in(move, 0, -1, 0, 0), in(sub, 0, 0, 3, 0), in(neg, 0, 0, 1, 0), in(mul, 2, 0, 0, 0), in(div, 2, 0, 0, 0), in(div, 2, 0, 0, 513), in(shl, 0, 0, 0, 65), in(shr, 0, 0, 0, 0), in(shr, 0, 0, 0, math.MinInt), in(add, 0, 0, 0, 1)} {
		mend(func(p *api.Prog) { p.Code = append(p.Code, i) })
		mend(func(p *api.Prog) { p.Code = append([]api.Instr{i}, p.Code...) })
	}
	for _, outs := range [][]int{nil, {}, {-1}, {3}, {2, 0, 3}, {math.MinInt}, {math.MaxInt}, make([]int, mostRegs+1)} {
		mend(func(p *api.Prog) { p.Outs = outs })
	}
	return append(l, api.Prog{}, api.Prog{Regs: 1, Outs: []int{0}}, api.Prog{Ins: 1, Regs: 1, Code: times(mostCode+1, in(move, 0, 0, 0, 0)), Outs: []int{0}}, plain(129, 129, 1))
}
