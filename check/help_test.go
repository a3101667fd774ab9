package check_test

import (
	"encoding/binary"
	"fmt"
	"math"
	"math/big"
	"slices"
	"strings"
	"testing"

	"swage/api"
	"swage/check"
	"swage/code"
	"swage/integer"
	"swage/point"
	"swage/prog"
)

// The limits, as the document tells them.
const (
	mostParts  = 8
	mostPoints = 15
	mostPoint  = 16
	mostRegs   = 128
	mostCode   = 16384
	mostConst  = 512
	mostShift  = 64
)

// The operations, by their numbers.
const (
	move = iota + 1
	neg
	add
	sub
	mul
	div
	shl
	shr
)

// in is an instruction: its operation, what it sets, what it asks, its constant.
func in(op, to, a, b, c int) api.Instr { return api.Instr{Op: op, To: to, A: a, B: b, C: c} }

// at is a point by its coordinates.
func at(a, b int) api.Point { return api.Point{A: a, B: b} }

// read is the program of a text whose lines are parted by bars.
func read(t *testing.T, s string) api.Prog {
	t.Helper()
	p, spot := prog.Read(strings.ReplaceAll(s, " | ", "\n") + "\n")
	if spot != (api.Spot{}) {
		t.Fatalf("Read of %q: %v", s, spot)
	}
	return p
}

// points are those of a text.
func points(t *testing.T, s string) []api.Point {
	t.Helper()
	l, spot := point.Read(s)
	if spot != (api.Spot{}) {
		t.Fatalf("Read of %q: %v", s, spot)
	}
	return l
}

// sides are a unit's programs, to be changed.
func sides(u *api.Unit) []*api.Prog { return []*api.Prog{&u.Left, &u.Right, &u.Back} }

// cloned is a unit in lists of its own.
func cloned(u api.Unit) api.Unit {
	u.Points = slices.Clone(u.Points)
	for _, p := range sides(&u) {
		p.Code, p.Outs = slices.Clone(p.Code), slices.Clone(p.Outs)
	}
	return u
}

// same tells whether both programs have the same numbers and the same lists, by no call of the project.
func same(p, q api.Prog) bool {
	return p.Ins == q.Ins && p.Regs == q.Regs && slices.Equal(p.Code, q.Code) && slices.Equal(p.Outs, q.Outs)
}

// alike tells the same of two units.
func alike(u, v api.Unit) bool {
	return u.K1 == v.K1 && u.K2 == v.K2 && slices.Equal(u.Points, v.Points) && same(u.Left, v.Left) && same(u.Right, v.Right) && same(u.Back, v.Back)
}

// zero tells whether nothing stands in a unit.
func zero(u api.Unit) bool { return alike(u, api.Unit{}) }

// show is a unit as a failing test tells it: not all of a long one.
func show(u api.Unit) string {
	s := fmt.Sprintf("(%d %d, %d points %v", u.K1, u.K2, len(u.Points), u.Points[:min(len(u.Points), 20)])
	for _, p := range sides(&u) {
		s += fmt.Sprintf(", in %d regs %d, %d instructions %v, %d outs %v", p.Ins, p.Regs, len(p.Code), p.Code[:min(len(p.Code), 20)], len(p.Outs), p.Outs[:min(len(p.Outs), 20)])
	}
	return s + ")"
}

// compiled and raw are a scheme's units, which there must be.
func compiled(t *testing.T, k1, k2 int, s string) api.Unit {
	t.Helper()
	u, e := check.Compile(k1, k2, points(t, s))
	if e != api.OK {
		t.Fatalf("Compile(%d, %d, %s): %v", k1, k2, s, e)
	}
	return u
}

func raw(t *testing.T, k1, k2 int, s string) api.Unit {
	t.Helper()
	u, e := check.Raw(k1, k2, points(t, s))
	if e != api.OK {
		t.Fatalf("Raw(%d, %d, %s): %v", k1, k2, s, e)
	}
	return u
}

// encoded are a unit's bytes, which there must be.
func encoded(t *testing.T, u api.Unit) []byte {
	t.Helper()
	b, e := code.Encode(u)
	if e != api.OK {
		t.Fatalf("Encode of %s: %v", show(u), e)
	}
	return b
}

// amount is a number without its sign; the least one of all has none.
func amount(n int) int { return max(n, -n, -max(n, -math.MaxInt)) }

// headOf is what is wrong ahead of the programs, by the words of chapters 6 and 7.
func headOf(k1, k2 int, l []api.Point) api.Errno {
	if k1 < 1 || k1 > mostParts || k2 < 1 || k2 > mostParts {
		return api.ErrLimit
	}
	for _, p := range l {
		if amount(p.A) > mostPoint || amount(p.B) > mostPoint {
			return api.ErrLimit
		}
	}
	if len(l) != k1+k2-1 {
		return api.ErrBadPoints
	}
	for j, p := range l {
		if p == at(0, 0) {
			return api.ErrBadPoints
		}
		for _, q := range l[:j] {
			if p.A*q.B == q.A*p.B {
				return api.ErrBadPoints
			}
		}
	}
	return api.OK
}

// constant tells whether an operation may have a constant, by chapter 8's table.
func constant(op, c int) bool {
	switch op {
	case mul, div:
		return -mostConst <= c && c <= mostConst && c != 0
	case shl, shr:
		return 1 <= c && c <= mostShift
	}
	return c == 0
}

// mayBe tells whether a program may be, by the words of chapter 8.
func mayBe(p api.Prog) bool {
	if p.Ins < 1 || p.Regs < p.Ins || p.Regs > mostRegs || len(p.Code) > mostCode || len(p.Outs) < 1 || len(p.Outs) > mostRegs {
		return false
	}
	there := func(r int) bool { return 0 <= r && r < p.Regs }
	for _, i := range p.Code {
		both := i.Op == add || i.Op == sub
		if i.Op < move || i.Op > shr || !there(i.To) || !there(i.A) || both && !there(i.B) || !both && i.B != 0 || !constant(i.Op, i.C) {
			return false
		}
	}
	return !slices.ContainsFunc(p.Outs, func(r int) bool { return !there(r) })
}

// numbers are those of a list, as they are reckoned with here.
func numbers(l ...int64) []*big.Int {
	var s []*big.Int
	for _, n := range l {
		s = append(s, big.NewInt(n))
	}
	return s
}

// result is what an instruction sets, of what it asks, as the table of chapter 8 says; false, if it fails.
func result(i api.Instr, a, b *big.Int) (*big.Int, bool) {
	c, v := big.NewInt(int64(i.C)), new(big.Int)
	switch i.Op {
	case move:
		return v.Set(a), true
	case neg:
		return v.Neg(a), true
	case add:
		return v.Add(a, b), true
	case sub:
		return v.Sub(a, b), true
	case mul:
		return v.Mul(a, c), true
	case shl:
		return v.Lsh(a, uint(i.C)), true
	case shr:
		c.Lsh(big.NewInt(1), uint(i.C))
	}
	rest := new(big.Int)
	v.QuoRem(a, c, rest)
	return v, rest.Sign() == 0
}

// follow is what a program that may be answers of rows, one for each input, place by place; false, if a division fails.
func follow(p api.Prog, rows [][]*big.Int) ([][]*big.Int, bool) {
	width := len(rows[0])
	held := make([][]*big.Int, p.Regs)
	for k := range held {
		held[k] = slices.Repeat([]*big.Int{new(big.Int)}, width)
		if k < p.Ins {
			held[k] = rows[k]
		}
	}
	for _, i := range p.Code {
		set := make([]*big.Int, width)
		for c := range set {
			v, fine := result(i, held[i.A][c], held[i.B][c])
			if !fine {
				return nil, false
			}
			set[c] = v
		}
		held[i.To] = set
	}
	var outs [][]*big.Int
	for _, r := range p.Outs {
		outs = append(outs, held[r])
	}
	return outs, true
}

// run is what a program answers of numbers.
func run(p api.Prog, l []*big.Int) ([]*big.Int, bool) {
	var rows [][]*big.Int
	for _, v := range l {
		rows = append(rows, []*big.Int{v})
	}
	outs, fine := follow(p, rows)
	var s []*big.Int
	for _, o := range outs {
		s = append(s, o[0])
	}
	return s, fine
}

// powers are what k coefficients have in the value at a point: A^j B^(k-1-j).
func powers(p api.Point, k int) []*big.Int {
	a, b := big.NewInt(int64(p.A)), big.NewInt(int64(p.B))
	var l []*big.Int
	for j := range k {
		v := new(big.Int).Exp(a, big.NewInt(int64(j)), nil)
		l = append(l, v.Mul(v, new(big.Int).Exp(b, big.NewInt(int64(k-1-j)), nil)))
	}
	return l
}

// grid has a row for each point: what n coefficients have in its value.
func grid(l []api.Point, n int) [][]*big.Int {
	var rows [][]*big.Int
	for _, p := range l {
		rows = append(rows, powers(p, n))
	}
	return rows
}

// units are n rows, each a 1 at its place and noughts elsewhere.
func units(n int) [][]*big.Int {
	var rows [][]*big.Int
	for k := range n {
		rows = append(rows, numbers(make([]int64, n)...))
		rows[k][k] = big.NewInt(1)
	}
	return rows
}

// equal tells whether rows have the same numbers.
func equal(l, m [][]*big.Int) bool {
	return slices.EqualFunc(l, m, equalRow)
}

func equalRow(l, m []*big.Int) bool {
	return slices.EqualFunc(l, m, func(v, w *big.Int) bool { return v.Cmp(w) == 0 })
}

// divides tells whether an instruction divides.
func divides(i api.Instr) bool { return i.Op == div || i.Op == shr }

// sideOf is what is wrong with a program that must make rows of a grid's: by the words of chapters 8, 11 and 12.
func sideOf(p api.Prog, exact bool, rows, want [][]*big.Int) api.Errno {
	if !mayBe(p) {
		return api.ErrProg
	}
	if p.Ins != len(rows) || len(p.Outs) != len(want) || !exact && slices.ContainsFunc(p.Code, divides) {
		return api.ErrWrong
	}
	if outs, fine := follow(p, rows); !fine || !equal(outs, want) {
		return api.ErrWrong
	}
	return api.OK
}

// wrongOf is the number of a unit's first part with which something is wrong, and what, by the chapter's words.
func wrongOf(u api.Unit) (int, api.Errno) {
	if e := headOf(u.K1, u.K2, u.Points); e != api.OK {
		return 0, e
	}
	n := len(u.Points)
	if e := sideOf(u.Left, false, units(u.K1), grid(u.Points, u.K1)); e != api.OK {
		return 1, e
	}
	if e := sideOf(u.Right, false, units(u.K2), grid(u.Points, u.K2)); e != api.OK {
		return 2, e
	}
	if e := sideOf(u.Back, true, grid(u.Points, n), units(n)); e != api.OK {
		return 3, e
	}
	return 0, api.OK
}

// convolution are the coefficients of the product of two polynomials.
func convolution(a, b []*big.Int) []*big.Int {
	l := numbers(make([]int64, len(a)+len(b)-1)...)
	for i, v := range a {
		for j, w := range b {
			l[i+j] = new(big.Int).Add(l[i+j], new(big.Int).Mul(v, w))
		}
	}
	return l
}

// integers are the Ints of numbers, made of their limbs.
func integers(l []*big.Int) []integer.Int {
	var s []integer.Int
	for _, v := range l {
		bytes := v.FillBytes(make([]byte, (v.BitLen()+31)/32*4))
		limbs := make([]uint32, len(bytes)/4)
		for j := range limbs {
			limbs[len(limbs)-1-j] = binary.BigEndian.Uint32(bytes[4*j:])
		}
		s = append(s, integer.Make(v.Sign() < 0, limbs))
	}
	return s
}

// maker makes the same numbers in every run: a shift register, so that a test that fails does so again.
type maker uint64

func (m *maker) next() uint32 {
	*m ^= *m << 13
	*m ^= *m >> 7
	*m ^= *m << 17
	return uint32(*m >> 16)
}

// below is a number from 0 to below n.
func (m *maker) below(n int) int { return int(m.next() % uint32(n)) }

// one is one of a list.
func (m *maker) one(l ...int) int { return l[m.below(len(l))] }

// points are n that no two of are one, with coordinates of an amount up to most; most lists have infinity among them.
func (m *maker) points(n, most int) []api.Point {
	var l []api.Point
	for len(l) < n {
		p := at(m.below(2*most+1)-most, m.below(2*most+1)-most)
		if len(l) == 0 && m.below(3) > 0 {
			p = at(m.one(1, 1, -1, most), 0)
		}
		if p != at(0, 0) && !slices.ContainsFunc(l, func(q api.Point) bool { return p.A*q.B == q.A*p.B }) {
			l = append(l, p)
		}
	}
	m.shuffle(n, func(i, j int) { l[i], l[j] = l[j], l[i] })
	return l
}

// shuffle changes the order of n items.
func (m *maker) shuffle(n int, swap func(i, j int)) {
	for i := n - 1; i > 0; i-- {
		swap(i, m.below(i+1))
	}
}

// scheme are split counts and points of a scheme, of up to so many points.
func (m *maker) scheme(most int) (int, int, []api.Point) {
	for {
		k1, k2 := 1+m.below(mostParts), 1+m.below(mostParts)
		if n := k1 + k2 - 1; n <= most {
			reach := mostPoint
			if n < 5 {
				reach = m.one(2, 4, mostPoint)
			}
			return k1, k2, m.points(n, reach)
		}
	}
}

// instr is an instruction that may be in a program of so many registers; one in five divides.
func (m *maker) instr(regs int) api.Instr {
	i := in(m.one(move, neg, add, add, sub, sub, mul, div, shl, shr), m.below(regs), m.below(regs), 0, 0)
	switch i.Op {
	case add, sub:
		i.B = m.below(regs)
	case mul, div:
		i.C = m.one(1, -1, 2, 3, -3, 4, 512)
	case shl, shr:
		i.C = m.one(1, 1, 2, 64)
	}
	return i
}

// padded is a right unit that has more instructions and registers than it needs: what nobody asks, and in Back divisions that go.
func padded(u api.Unit) api.Unit {
	u = cloned(u)
	for k, p := range sides(&u) {
		var code []api.Instr
		for n, i := range p.Code {
			code = append(code, i, in(mul, p.Regs, i.To, 0, -6), in(move, p.Regs+1, p.Regs, 0, 0), in(move, i.To, i.To, 0, 0))
			if k == 2 && n%2 == 0 {
				code = append(code, in(div, p.Regs, p.Regs, 0, 3), in(shr, p.Regs, p.Regs, 0, 1), in(neg, i.To, p.Regs, 0, 0))
			}
		}
		for j, r := range p.Outs {
			code = append(code, in(move, p.Regs+2+j, r, 0, 0))
			p.Outs[j] = p.Regs + 2 + j
		}
		p.Regs += 2 + len(p.Outs)
		p.Code = code
	}
	return u
}

// right are units that are right: n schemes drawn at random, of up to so many points, each compiled, raw and padded.
func right(t *testing.T, seed maker, n, most int) []api.Unit {
	t.Helper()
	m := seed
	var l []api.Unit
	for range n {
		k1, k2, s := m.scheme(most)
		u, e := check.Compile(k1, k2, s)
		v, f := check.Raw(k1, k2, s)
		if e != api.OK || f != api.OK {
			t.Fatalf("%d %d %v: %v, %v", k1, k2, s, e, f)
		}
		l = append(l, u, v, padded(v))
	}
	return l
}

// swapped are two parts of a program changed about.
func (m *maker) swapped(p *api.Prog) {
	if n := len(p.Code); n > 1 && m.below(2) == 0 {
		i, j := m.below(n), m.below(n)
		p.Code[i], p.Code[j] = p.Code[j], p.Code[i]
		return
	}
	i, j := m.below(len(p.Outs)), m.below(len(p.Outs))
	p.Outs[i], p.Outs[j] = p.Outs[j], p.Outs[i]
}

// bend changes something in a program that has Outs, of a few kinds; most of what comes out may be.
func (m *maker) bend(p *api.Prog) {
	n, regs := len(p.Code), min(max(p.Regs, 1), mostRegs)
	switch kind := m.below(9); {
	case kind == 0 && n > 0:
		p.Code[m.below(n)] = m.instr(regs)
	case kind == 1:
		p.Code = slices.Insert(p.Code, m.below(n+1), m.instr(regs))
	case kind == 2 && n > 0:
		k := m.below(n)
		p.Code = slices.Delete(p.Code, k, k+1)
	case kind == 3:
		p.Outs[m.below(len(p.Outs))] = m.below(regs)
	case kind == 4 && len(p.Outs) > 1:
		p.Outs = p.Outs[:len(p.Outs)-1]
	case kind == 5:
		p.Outs = append(p.Outs, m.below(regs))
	case kind == 6:
		p.Ins = m.one(p.Ins-1, p.Ins+1)
		p.Regs = m.one(p.Regs, p.Regs+1)
	case kind == 7:
		p.Regs = m.one(p.Regs-1, p.Regs+1, 0, mostRegs+1)
	default:
		m.swapped(p)
	}
}

// change is a unit in lists of its own, with one part of it changed: a split count, a point, a program.
func (m *maker) change(u api.Unit) api.Unit {
	u = cloned(u)
	n := len(u.Points)
	switch m.below(12) {
	case 0:
		u.K1 = m.one(u.K1-1, u.K1+1, u.K2)
	case 1:
		u.K2 = m.one(u.K2-1, u.K2+1, u.K1)
	case 2:
		u.Points[m.below(n)] = at(m.below(36)-18, m.below(36)-18)
	case 3:
		p := u.Points[m.below(n)]
		u.Points[m.below(n)] = at(-p.A, -p.B)
	case 4:
		i, j := m.below(n), m.below(n)
		u.Points[i], u.Points[j] = u.Points[j], u.Points[i]
	case 5:
		m.swapped(sides(&u)[m.below(3)])
	default:
		m.bend(sides(&u)[m.below(3)])
	}
	return u
}

// wrongPrograms are programs that may not be, of each kind, made of one that may be.
func wrongPrograms(p api.Prog) []api.Prog {
	var l []api.Prog
	mend := func(f func(p *api.Prog)) {
		q := prog.Copy(p)
		f(&q)
		l = append(l, q)
	}
	for _, n := range []int{math.MinInt, -1, 0, p.Regs + 1, mostRegs + 1, math.MaxInt} {
		mend(func(p *api.Prog) { p.Ins = n })
	}
	for _, n := range []int{math.MinInt, -1, 0, p.Ins - 1, mostRegs + 1, math.MaxInt} {
		mend(func(p *api.Prog) { p.Regs = n })
	}
	for _, i := range []api.Instr{{}, in(9, 0, 0, 0, 0), in(-1, 0, 0, 0, 0), in(move, p.Regs, 0, 0, 0), in(move, 0, -1, 0, 0), in(add, 0, 0, p.Regs, 0), in(neg, 0, 0, 1, 0), in(mul, 0, 0, 0, 0), in(mul, 0, 0, 0, mostConst+1), in(div, 0, 0, 0, 0), in(shl, 0, 0, 0, mostShift+1), in(shr, 0, 0, 0, 0), in(add, 0, 0, 0, 1), in(move, math.MinInt, math.MaxInt, 0, 0)} {
		mend(func(p *api.Prog) { p.Code = append(p.Code, i) })
		mend(func(p *api.Prog) { p.Code = append([]api.Instr{i}, p.Code...) })
	}
	for _, outs := range [][]int{nil, {}, {-1}, {p.Regs}, {0, math.MaxInt}, {math.MinInt}, make([]int, mostRegs+1)} {
		mend(func(p *api.Prog) { p.Outs = outs })
	}
	mend(func(p *api.Prog) { p.Code = slices.Repeat([]api.Instr{in(move, 0, 0, 0, 0)}, mostCode+1) })
	return append(l, api.Prog{})
}
