package synth_test

import (
	"encoding/binary"
	"fmt"
	"math"
	"math/big"
	"slices"
	"strings"
	"testing"

	"swage/api"
	"swage/integer"
	"swage/point"
	"swage/prog"
)

// The limits, as the document tells them.
const (
	mostParts  = 8
	mostPoints = 15
	mostPoint  = 16
	mostConst  = 512
	mostRegs   = 128
	mostCode   = 16384
)

// The operations, by their numbers.
const (
	move = iota + 1
	neg
	add
	sub
	mul
	div
	shl
	shr
)

// in is an instruction: its operation, what it sets, what it asks, its constant.
func in(op, to, a, b, c int) api.Instr { return api.Instr{Op: op, To: to, A: a, B: b, C: c} }

// read is the program of a text whose lines are parted by bars.
func read(t *testing.T, s string) api.Prog {
	t.Helper()
	p, spot := prog.Read(strings.ReplaceAll(s, " | ", "\n") + "\n")
	if spot != (api.Spot{}) {
		t.Fatalf("Read of %q: %v", s, spot)
	}
	return p
}

// at is a point by its coordinates.
func at(a, b int) api.Point { return api.Point{A: a, B: b} }

// points are those of a text.
func points(t *testing.T, s string) []api.Point {
	t.Helper()
	l, spot := point.Read(s)
	if spot != (api.Spot{}) {
		t.Fatalf("Read of %q: %v", s, spot)
	}
	return l
}

// every are all points that are in.
func every() []api.Point {
	var l []api.Point
	for a := -mostPoint; a <= mostPoint; a++ {
		for b := -mostPoint; b <= mostPoint; b++ {
			l = append(l, at(a, b))
		}
	}
	return l
}

// amount is a number without its sign.
func amount(n int) int { return max(n, -n) }

// common is the greatest number that divides both coordinates.
func common(p api.Point) int {
	for n := mostPoint; n > 0; n-- {
		if p != at(0, 0) && p.A%n == 0 && p.B%n == 0 {
			return n
		}
	}
	return 0
}

// norms are all points that are in and their own norms.
func norms() []api.Point {
	return slices.DeleteFunc(every(), func(p api.Point) bool {
		return common(p) != 1 || p.B < 0 || p.B == 0 && p.A < 0
	})
}

// outside are points that are not in: by one too much, by both coordinates, by so much that a shorter number would forget it.
func outside() []api.Point {
	var l []api.Point
	for _, n := range []int{mostPoint + 1, 100, 1 << 8, 1<<8 + 1, 1 << 16, 1<<32 + 1, 1 << 62, math.MaxInt} {
		for _, m := range []int{0, 1, -mostPoint, mostPoint} {
			l = append(l, at(n, m), at(-n, m), at(m, n), at(m, -n))
		}
		l = append(l, at(n, n), at(-n, n), at(n, -n), at(-n, -n))
	}
	return append(l, at(math.MinInt, 1), at(1, math.MinInt), at(0, math.MinInt), at(math.MinInt, math.MinInt))
}

// wrongPoints are lists that are not right: none, too many, and with a point that is not in, one that is none, two that are one, at any place.
func wrongPoints() [][]api.Point {
	l := [][]api.Point{nil, {}}
	all := norms()
	for _, n := range []int{mostPoints + 1, mostPoints + 2, 2 * mostPoints, len(all)} {
		l = append(l, all[:n])
	}
	l = append(l, make([]api.Point, 1<<16))
	for _, p := range append(outside(), at(0, 0)) {
		l = append(l, []api.Point{p}, []api.Point{at(0, 1), p}, []api.Point{p, at(0, 1), at(1, 0)})
	}
	for j := range mostPoints {
		for _, p := range []api.Point{at(-mostPoint-1, 1), at(0, 0)} {
			full := slices.Clone(all[:mostPoints])
			full[j] = p
			l = append(l, full)
		}
		for i := range j {
			full := slices.Clone(all[:mostPoints])
			full[j] = at(-full[i].A, -full[i].B)
			l = append(l, full, full[:j+1], full[i:j+1])
		}
	}
	for _, p := range every() {
		for _, c := range []int{1, -1, 2, -2, 3, -16} {
			if q := at(c*p.A, c*p.B); max(q.A, -q.A, q.B, -q.B) <= mostPoint {
				l = append(l, []api.Point{p, q})
			}
		}
	}
	return l
}

// edges are lists of right points at the document's edges.
func edges(t *testing.T) [][]api.Point {
	var l [][]api.Point
	for _, s := range []string{
		"0", "inf", "1", "-1", "(-1:-1)", "(16:16)", "(-16:16)", "(16:-16)", "(-16:-16)", "(0:16)", "(0:-16)", "(16:0)", "(-16:0)", "16", "-16", "1/16", "-1/16", "(-1:-16)", "(4:6)",
		"0 inf", "inf 0", "0 1", "1 -1", "(0:-1) (-1:0)", "(0:16) (16:0)", "(0:-16) (-16:0)", "(16:16) (16:-16)", "15/16 -16/15", "16/15 -15/16", "(-15:-16) (16:-15)", "(2:2) (0:2)",
		"0 1 inf", "inf 1 0", "1 inf 0", "0 (-1:-1) (-1:0)", "0 -1 inf", "0 1 -1", "(0:2) (2:2) (2:0)", "(0:16) (-16:-16) (-16:0)", "1/2 3 inf", "16 -16 0", "16 1/16 15/16",
		"0 1 -1 inf", "0 1 -1 2 inf", "inf 2 -1 1 0", "0 1 -1 1/2 inf", "1/2 2/3 -5/7 (4:2) (-3:0)", "0 1 -1 2 -2 1/2 inf", "0 1 -1 2 -2 1/2 -1/2 inf", "16 -16 15/16 -1/16 1 0 inf",
		"0 1 -1 2 -2 3 -3 4 -4 5 -5 6 -6 7 inf", "inf 0 1 2 3 4 5 6 7 8 9 10 11 12 13", "16 15 14 13 12 11 10 9 8 7 6 5 4 3 2", "0 inf 1 -1 1/2 -1/2 2 -2 1/4 -1/4 4 -4 1/8 8 16", "-1/2 -1/3 -1/4 -1/5 -1/6 -1/7 -1/8 -1/9 -1/10 -1/11 -1/12 -1/13 -1/14 -1/15 -1/16",
		"13/16 15/16 11/16 -13/16 -15/16 -11/16 16/13 16/11 16/15 -16/13 -16/15 -16/11 14/15 -14/15 7/16", "(-13:-16) (-15:-16) (-11:-16) (13:-16) (15:-16) (11:-16) (-16:-13) (-16:-11) (-16:-15) (16:-13) (16:-15) (16:-11) (-14:-15) (14:-15) (-7:-16)",
		"(0:16) (16:0) (16:16) (-16:16) (14:7) (-14:7) (7:14) (-7:14) (15:5) (-15:5) (5:15) (-5:15) (16:12) (-16:12) (12:16)", "(0:-16) (-16:0) (-16:-16) (16:-16) (-14:-7) (14:-7) (-7:-14) (7:-14) (-15:-5) (15:-5) (-5:-15) (5:-15) (-16:-12) (16:-12) (-12:-16)",
	} {
		l = append(l, points(t, s))
	}
	return l
}

// value is what an Int says by its limbs.
func value(x integer.Int) *big.Int {
	below, limbs := x.Limbs()
	bytes := make([]byte, 4*len(limbs))
	for k, part := range limbs {
		binary.BigEndian.PutUint32(bytes[4*(len(limbs)-1-k):], part)
	}
	v := new(big.Int).SetBytes(bytes)
	if below {
		v.Neg(v)
	}
	return v
}

// integers are the Ints of numbers of another make.
func integers(l []*big.Int) []integer.Int {
	numbers := make([]integer.Int, len(l))
	for k, v := range l {
		bytes := v.FillBytes(make([]byte, (v.BitLen()+31)/32*4))
		limbs := make([]uint32, len(bytes)/4)
		for j := range limbs {
			limbs[len(limbs)-1-j] = binary.BigEndian.Uint32(bytes[4*j:])
		}
		numbers[k] = integer.Make(v.Sign() < 0, limbs)
	}
	return numbers
}

// sayAll tells whether Ints are these numbers, and as many.
func sayAll(l []integer.Int, want []*big.Int) bool {
	return slices.EqualFunc(l, want, func(x integer.Int, v *big.Int) bool { return value(x).Cmp(v) == 0 })
}

// same tells whether two lists have the same numbers.
func same(l, want []*big.Int) bool {
	return slices.EqualFunc(l, want, func(v, w *big.Int) bool { return v.Cmp(w) == 0 })
}

// show is a program as a failing test tells it: not all of a long one.
func show(p api.Prog) string {
	code, outs := p.Code[:min(len(p.Code), 60)], p.Outs[:min(len(p.Outs), 20)]
	return fmt.Sprintf("(in %d regs %d, %d instructions %v, %d outs %v)", p.Ins, p.Regs, len(p.Code), code, len(p.Outs), outs)
}

// zero tells whether a program is the zero one; nil and empty lists are one.
func zero(p api.Prog) bool { return p.Ins == 0 && p.Regs == 0 && len(p.Code) == 0 && len(p.Outs) == 0 }

// power is a coordinate to the e.
func power(n, e int) *big.Int {
	v := big.NewInt(1)
	for range e {
		v.Mul(v, big.NewInt(int64(n)))
	}
	return v
}

// weight is what the coefficient j of n has in the value at a point.
func weight(p api.Point, j, n int) *big.Int {
	return new(big.Int).Mul(power(p.A, j), power(p.B, n-1-j))
}

// valuesOf are the values of coefficients at points, by their definition.
func valuesOf(c []*big.Int, l []api.Point) []*big.Int {
	values := make([]*big.Int, len(l))
	for i, p := range l {
		values[i] = new(big.Int)
		for j, v := range c {
			values[i].Add(values[i], new(big.Int).Mul(v, weight(p, j, len(c))))
		}
	}
	return values
}

// unit is a 1 at the place j of n, and noughts elsewhere.
func unit(n, j int) []*big.Int {
	l := slices.Repeat([]*big.Int{new(big.Int)}, n)
	l[j] = big.NewInt(1)
	return l
}

// result is what an instruction sets, of what it asks, as the table of chapter 8 says; false, if it fails.
func result(i api.Instr, a, b *big.Int) (*big.Int, bool) {
	c := big.NewInt(int64(i.C))
	rest := new(big.Int)
	switch v := new(big.Int); i.Op {
	case move:
		v.Set(a)
		return v, true
	case neg:
		return v.Neg(a), true
	case add:
		return v.Add(a, b), true
	case sub:
		return v.Sub(a, b), true
	case mul:
		return v.Mul(a, c), true
	case shl:
		return v.Lsh(a, uint(i.C)), true
	case shr:
		c.Lsh(big.NewInt(1), uint(i.C))
		fallthrough
	default:
		v.QuoRem(a, c, rest)
		return v, rest.Sign() == 0
	}
}

// ran is what a program that may be answers; false, if one of its instructions fails.
func ran(p api.Prog, ins []*big.Int) ([]*big.Int, bool) {
	regs := slices.Repeat([]*big.Int{new(big.Int)}, p.Regs)
	copy(regs, ins)
	for _, i := range p.Code {
		v, goes := result(i, regs[i.A], regs[i.B])
		if !goes {
			return nil, false
		}
		regs[i.To] = v
	}
	var outs []*big.Int
	for _, r := range p.Outs {
		outs = append(outs, regs[r])
	}
	return outs, true
}

// verdict tells whether a program that may be interpolates, by the chapter's words: over each column of the grid, which has the values of the polynomial with a 1 among noughts, it must go without failing (P10.5), and answer these.
func verdict(p api.Prog, l []api.Point) bool {
	if p.Ins != len(l) || len(p.Outs) != len(l) {
		return false
	}
	for j := range l {
		c := unit(len(l), j)
		if outs, goes := ran(p, valuesOf(c, l)); !goes || !same(outs, c) {
			return false
		}
	}
	return true
}

// divisions is how many instructions divide.
func divisions(p api.Prog) int {
	n := 0
	for _, i := range p.Code {
		if i.Op == div || i.Op == shr {
			n++
		}
	}
	return n
}

// mostDivisions is how many may divide at points (P12.3).
func mostDivisions(l []api.Point) int {
	n := len(l) * (len(l) - 1) / 2
	for _, p := range l {
		if common(p) != 1 {
			n += len(l) - 1
		}
	}
	return n
}

// hold fails, unless a program may be, interpolates at points, and keeps to the bounds of P12.2 and P12.3.
func hold(t *testing.T, p api.Prog, l []api.Point) {
	t.Helper()
	if _, e := prog.Check(p); e != api.OK {
		t.Fatalf("at %v: %s may not be", l, show(p))
	}
	if !verdict(p, l) {
		t.Errorf("at %v: %s does not interpolate", l, show(p))
	}
	for _, i := range p.Code {
		if (i.Op == mul || i.Op == div) && amount(i.C) > mostConst {
			t.Errorf("at %v: the constant %d", l, i.C)
		}
	}
	if n := divisions(p); n > mostDivisions(l) {
		t.Errorf("at %v: %d divisions, not %d at most", l, n, mostDivisions(l))
	}
}

// rising is the order 0, 1, .. n - 1.
func rising(n int) []int {
	l := make([]int, n)
	for i := range l {
		l[i] = i
	}
	return l
}

// isOrder tells whether a list has each number from 0 to n - 1 once.
func isOrder(order []int, n int) bool {
	seen := make([]bool, n)
	for _, i := range order {
		if i < 0 || i >= n || seen[i] {
			return false
		}
		seen[i] = true
	}
	return len(order) == n
}

// maker makes the same numbers in every run: a shift register, so that a test that fails does so again.
type maker uint64

func (m *maker) next() uint32 {
	*m ^= *m << 13
	*m ^= *m >> 7
	*m ^= *m << 17
	return uint32(*m >> 16)
}

// below is a number from 0 to below n.
func (m *maker) below(n int) int { return int(m.next() % uint32(n)) }

// order is an order of n points.
func (m *maker) order(n int) []int {
	l := rising(n)
	for i := range l {
		j := m.below(i + 1)
		l[i], l[j] = l[j], l[i]
	}
	return l
}

// points are n right points, with norms of coordinates up to most, some of them with both coordinates times a number.
func (m *maker) points(n, most int) []api.Point {
	all := slices.DeleteFunc(norms(), func(p api.Point) bool { return max(amount(p.A), p.B) > most })
	var l []api.Point
	for _, k := range m.order(len(all))[:n] {
		p := all[k]
		c := 1
		if m.below(3) == 0 {
			c += m.below(mostPoint / max(amount(p.A), p.B))
		}
		if m.below(2) == 0 {
			c = -c
		}
		l = append(l, at(c*p.A, c*p.B))
	}
	return l
}

// lists are lists of right points, of all lengths, with small coordinates and great ones.
func (m *maker) lists(each int) [][]api.Point {
	var l [][]api.Point
	for n := 1; n <= mostPoints; n++ {
		for k := range each {
			l = append(l, m.points(n, []int{4, 6, mostPoint}[k%3]))
		}
	}
	return l
}

// numbers are n numbers, below 0 and above, some of them of several limbs, some of them 0.
func (m *maker) numbers(n int) []*big.Int {
	l := make([]*big.Int, n)
	for k := range l {
		l[k] = big.NewInt(int64(m.next()) - 1<<31)
		switch m.below(4) {
		case 0:
			l[k].Mul(l[k], new(big.Int).Lsh(big.NewInt(int64(m.next())), 90))
		case 1:
			l[k].SetInt64(int64(m.below(5) - 2))
		}
	}
	return l
}

// karatsuba interpolates at 0, 1 and inf.
func karatsuba() api.Prog {
	return api.Prog{Ins: 3, Regs: 3, Code: []api.Instr{in(sub, 1, 1, 0, 0), in(sub, 1, 1, 2, 0)}, Outs: []int{0, 1, 2}}
}

// wrong are programs that may not be, of each kind.
func wrong() []api.Prog {
	var l []api.Prog
	mend := func(f func(p *api.Prog)) {
		p := karatsuba()
		f(&p)
		l = append(l, p)
	}
	for _, n := range []int{math.MinInt, -1, 0, 4, mostRegs + 1, math.MaxInt} {
		mend(func(p *api.Prog) { p.Ins = n })
	}
	for _, n := range []int{math.MinInt, -1, 0, 2, mostRegs + 1, math.MaxInt} {
		mend(func(p *api.Prog) { p.Regs = n })
	}
	for _, i := range []api.Instr{{}, in(9, 0, 0, 0, 0), in(move, 3, 0, 0, 0), in(move, 0, -1, 0, 0), in(sub, 0, 0, 3, 0), in(neg, 0, 0, 1, 0), in(mul, 2, 0, 0, 0), in(mul, 2, 0, 0, -513), in(div, 2, 0, 0, 0), in(div, 2, 0, 0, 513), in(shl, 0, 0, 0, 65), in(shr, 0, 0, 0, 0), in(add, 0, 0, 0, 1)} {
		mend(func(p *api.Prog) { p.Code = append(p.Code, i) })
		mend(func(p *api.Prog) { p.Code = append([]api.Instr{i}, p.Code...) })
	}
	for _, outs := range [][]int{nil, {}, {-1}, {3}, {0, 1, 3}, {math.MinInt}, {math.MaxInt}, make([]int, mostRegs+1)} {
		mend(func(p *api.Prog) { p.Outs = outs })
	}
	mend(func(p *api.Prog) { p.Code = slices.Repeat([]api.Instr{in(move, 2, 2, 0, 0)}, mostCode+1) })
	return append(l, api.Prog{}, api.Prog{Regs: 1, Outs: []int{0}}, api.Prog{Ins: 1, Regs: 1})
}
