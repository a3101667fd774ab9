package eval_test

import (
	"encoding/binary"
	"fmt"
	"math"
	"math/big"
	"slices"
	"strings"
	"testing"

	"swage/api"
	"swage/integer"
	"swage/point"
	"swage/prog"
)

// The limits, as the document tells them.
const (
	mostParts  = 8
	mostCoeffs = 16
	mostPoints = 15
	mostPoint  = 16
	mostRegs   = 128
	mostCode   = 16384
)

// The operations, by their numbers.
const (
	move = iota + 1
	neg
	add
	sub
	mul
	div
	shl
	shr
)

// in is an instruction: its operation, what it sets, what it asks, its constant.
func in(op, to, a, b, c int) api.Instr { return api.Instr{Op: op, To: to, A: a, B: b, C: c} }

// read is the program of a text whose lines are parted by bars.
func read(t *testing.T, s string) api.Prog {
	t.Helper()
	p, spot := prog.Read(strings.ReplaceAll(s, " | ", "\n") + "\n")
	if spot != (api.Spot{}) {
		t.Fatalf("Read of %q: %v", s, spot)
	}
	return p
}

// at is a point by its coordinates.
func at(a, b int) api.Point { return api.Point{A: a, B: b} }

// points are those of a text.
func points(t *testing.T, s string) []api.Point {
	t.Helper()
	l, spot := point.Read(s)
	if spot != (api.Spot{}) {
		t.Fatalf("Read of %q: %v", s, spot)
	}
	return l
}

// every are all points that are in.
func every() []api.Point {
	var l []api.Point
	for a := -mostPoint; a <= mostPoint; a++ {
		for b := -mostPoint; b <= mostPoint; b++ {
			l = append(l, at(a, b))
		}
	}
	return l
}

// outside are points that are not in: by one too much, by both coordinates, by so much that a shorter number would forget it.
func outside() []api.Point {
	var l []api.Point
	for _, n := range []int{mostPoint + 1, 100, 1 << 8, 1<<8 + 1, 1 << 16, 1<<32 + 1, 1 << 62, math.MaxInt} {
		for _, m := range []int{0, 1, -mostPoint, mostPoint} {
			l = append(l, at(n, m), at(-n, m), at(m, n), at(m, -n))
		}
		l = append(l, at(n, n), at(-n, n), at(n, -n), at(-n, -n))
	}
	return append(l, at(math.MinInt, 1), at(1, math.MinInt), at(0, math.MinInt), at(math.MinInt, math.MinInt))
}

// wrongPoints are lists that may not be handed in: none, too many, one point of them that is not in, at any place.
func wrongPoints() [][]api.Point {
	l := [][]api.Point{nil, {}}
	for _, n := range []int{mostPoints + 1, mostPoints + 2, 2 * mostPoints, 1 << 16} {
		l = append(l, make([]api.Point, n), slices.Repeat([]api.Point{at(1, 1)}, n))
	}
	for _, p := range outside() {
		l = append(l, []api.Point{p}, []api.Point{at(0, 1), p}, []api.Point{p, at(0, 1), at(1, 0)})
	}
	for n := range mostPoints {
		full := slices.Repeat([]api.Point{at(2, -3)}, mostPoints)
		full[n] = at(-mostPoint-1, 1)
		l = append(l, full)
	}
	return l
}

// of is a small whole number.
func of(n int64) integer.Int { return integer.Of(n) }

// list is a list of small whole numbers.
func list(l ...int64) []integer.Int {
	var numbers []integer.Int
	for _, n := range l {
		numbers = append(numbers, of(n))
	}
	return numbers
}

// value is what an Int says by its limbs.
func value(x integer.Int) *big.Int {
	below, limbs := x.Limbs()
	bytes := make([]byte, 4*len(limbs))
	for k, part := range limbs {
		binary.BigEndian.PutUint32(bytes[4*(len(limbs)-1-k):], part)
	}
	v := new(big.Int).SetBytes(bytes)
	if below {
		v.Neg(v)
	}
	return v
}

// integers are the Ints of numbers of another make.
func integers(l []*big.Int) []integer.Int {
	numbers := make([]integer.Int, len(l))
	for k, v := range l {
		bytes := v.FillBytes(make([]byte, (v.BitLen()+31)/32*4))
		limbs := make([]uint32, len(bytes)/4)
		for j := range limbs {
			limbs[len(limbs)-1-j] = binary.BigEndian.Uint32(bytes[4*j:])
		}
		numbers[k] = integer.Make(v.Sign() < 0, limbs)
	}
	return numbers
}

// says tells whether an Int is a number.
func says(x integer.Int, v *big.Int) bool { return value(x).Cmp(v) == 0 }

// sayAll tells whether Ints are these numbers, and as many.
func sayAll(l []integer.Int, want []*big.Int) bool { return slices.EqualFunc(l, want, says) }

// told is a list, a blank between two numbers.
func told(l []integer.Int) string {
	var texts []string
	for _, x := range l {
		texts = append(texts, value(x).String())
	}
	return strings.Join(texts, " ")
}

// show is a program as a failing test tells it: not all of a long one.
func show(p api.Prog) string {
	code, outs := p.Code[:min(len(p.Code), 60)], p.Outs[:min(len(p.Outs), 20)]
	return fmt.Sprintf("(in %d regs %d, %d instructions %v, %d outs %v)", p.Ins, p.Regs, len(p.Code), code, len(p.Outs), outs)
}

// zero tells whether a program is the zero one; nil and empty lists are one.
func zero(p api.Prog) bool { return p.Ins == 0 && p.Regs == 0 && len(p.Code) == 0 && len(p.Outs) == 0 }

// power is a coordinate to the e.
func power(n, e int) *big.Int {
	v := big.NewInt(1)
	for range e {
		v.Mul(v, big.NewInt(int64(n)))
	}
	return v
}

// weight is what the coefficient j of k has in the value at a point.
func weight(p api.Point, j, k int) *big.Int {
	return new(big.Int).Mul(power(p.A, j), power(p.B, k-1-j))
}

// valueOf is the value of coefficients at a point, by its definition.
func valueOf(c []*big.Int, p api.Point) *big.Int {
	sum := new(big.Int)
	for j, v := range c {
		sum.Add(sum, new(big.Int).Mul(v, weight(p, j, len(c))))
	}
	return sum
}

// valuesOf are the values at points.
func valuesOf(c []*big.Int, l []api.Point) []*big.Int {
	var values []*big.Int
	for _, p := range l {
		values = append(values, valueOf(c, p))
	}
	return values
}

// result is what an instruction that does not divide sets, of what it asks, as the table of chapter 8 says.
func result(i api.Instr, a, b *big.Int) *big.Int {
	switch v := new(big.Int); i.Op {
	case move:
		return v.Set(a)
	case neg:
		return v.Neg(a)
	case add:
		return v.Add(a, b)
	case sub:
		return v.Sub(a, b)
	case mul:
		return v.Mul(a, big.NewInt(int64(i.C)))
	case shl:
		return v.Lsh(a, uint(i.C))
	}
	panic(fmt.Sprint("an instruction that divides: ", i))
}

// ran is what a program without divisions answers.
func ran(p api.Prog, ins []*big.Int) []*big.Int {
	regs := slices.Repeat([]*big.Int{new(big.Int)}, p.Regs)
	copy(regs, ins)
	for _, i := range p.Code {
		regs[i.To] = result(i, regs[i.A], regs[i.B])
	}
	var outs []*big.Int
	for _, r := range p.Outs {
		outs = append(outs, regs[r])
	}
	return outs
}

// verdict tells whether a program that may be evaluates, by the chapter's words: on a 1 among noughts it must answer what that coefficient has in the values.
func verdict(p api.Prog, k int, l []api.Point) bool {
	divides := func(i api.Instr) bool { return i.Op == div || i.Op == shr }
	if p.Ins != k || len(p.Outs) != len(l) || slices.ContainsFunc(p.Code, divides) {
		return false
	}
	for j := range k {
		unit := slices.Repeat([]*big.Int{new(big.Int)}, k)
		unit[j] = big.NewInt(1)
		for i, v := range ran(p, unit) {
			if v.Cmp(weight(l[i], j, k)) != 0 {
				return false
			}
		}
	}
	return true
}

// maker makes the same numbers in every run: a shift register, so that a test that fails does so again.
type maker uint64

func (m *maker) next() uint32 {
	*m ^= *m << 13
	*m ^= *m >> 7
	*m ^= *m << 17
	return uint32(*m >> 16)
}

// below is a number from 0 to below n.
func (m *maker) below(n int) int { return int(m.next() % uint32(n)) }

// coordinate is one that is in: all of them, and those at which something turns more often.
func (m *maker) coordinate() int {
	return []int{0, 1, -1, 2, -2, mostPoint, -mostPoint, m.below(2*mostPoint+1) - mostPoint}[m.below(8)]
}

// points are n points that are in, some of them none, some of them one.
func (m *maker) points(n int) []api.Point {
	l := make([]api.Point, n)
	for k := range l {
		l[k] = at(m.coordinate(), m.coordinate())
		if m.below(8) == 0 {
			l[k] = l[m.below(k+1)]
		}
	}
	return l
}

// numbers are n numbers, below 0 and above, some of them of several limbs, some of them 0.
func (m *maker) numbers(n int) []*big.Int {
	l := make([]*big.Int, n)
	for k := range l {
		l[k] = big.NewInt(int64(m.next()) - 1<<31)
		switch m.below(4) {
		case 0:
			l[k].Mul(l[k], new(big.Int).Lsh(big.NewInt(int64(m.next())), 90))
		case 1:
			l[k].SetInt64(int64(m.below(5) - 2))
		}
	}
	return l
}

// karatsuba evaluates two coefficients at 0, 1 and inf.
func karatsuba() api.Prog {
	return api.Prog{Ins: 2, Regs: 3, Code: []api.Instr{in(add, 2, 0, 1, 0)}, Outs: []int{0, 2, 1}}
}

// wrong are programs that may not be, of each kind.
func wrong() []api.Prog {
	var l []api.Prog
	mend := func(f func(p *api.Prog)) {
		p := karatsuba()
		f(&p)
		l = append(l, p)
	}
	for _, n := range []int{math.MinInt, -1, 0, 4, mostRegs + 1, math.MaxInt} {
		mend(func(p *api.Prog) { p.Ins = n })
	}
	for _, n := range []int{math.MinInt, -1, 0, 1, mostRegs + 1, math.MaxInt} {
		mend(func(p *api.Prog) { p.Regs = n })
	}
	for _, i := range []api.Instr{{}, in(9, 0, 0, 0, 0), in(move, 3, 0, 0, 0), in(move, 0, -1, 0, 0), in(sub, 0, 0, 3, 0), in(neg, 0, 0, 1, 0), in(mul, 2, 0, 0, 0), in(mul, 2, 0, 0, -513), in(div, 2, 0, 0, 0), in(div, 2, 0, 0, 513), in(shl, 0, 0, 0, 65), in(shr, 0, 0, 0, 0), in(add, 0, 0, 0, 1)} {
		mend(func(p *api.Prog) { p.Code = append(p.Code, i) })
		mend(func(p *api.Prog) { p.Code = append([]api.Instr{i}, p.Code...) })
	}
	for _, outs := range [][]int{nil, {}, {-1}, {3}, {0, 2, 3}, {math.MinInt}, {math.MaxInt}, make([]int, mostRegs+1)} {
		mend(func(p *api.Prog) { p.Outs = outs })
	}
	mend(func(p *api.Prog) { p.Code = slices.Repeat([]api.Instr{in(move, 2, 2, 0, 0)}, mostCode+1) })
	return append(l, api.Prog{}, api.Prog{Regs: 1, Outs: []int{0}}, api.Prog{Ins: 1, Regs: 1})
}
