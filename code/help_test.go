package code_test

import (
	"fmt"
	"math"
	"slices"
	"strings"
	"testing"

	"swage/api"
	"swage/prog"
)

// The limits, as the document tells them.
const (
	mostParts  = 8
	mostPoint  = 16
	mostPoints = 255
	mostRegs   = 128
	mostCode   = 16384
	mostConst  = 512
	mostShift  = 64
	rest       = 65521 // by what the check is divided
)

// The operations, by their numbers.
const (
	move = iota + 1
	neg
	add
	sub
	mul
	div
	shl
	shr
)

// in is an instruction: its operation, what it sets, what it asks, its constant.
func in(op, to, a, b, c int) api.Instr { return api.Instr{Op: op, To: to, A: a, B: b, C: c} }

// read is the program of a text whose lines are parted by bars.
func read(t *testing.T, s string) api.Prog {
	t.Helper()
	p, spot := prog.Read(strings.ReplaceAll(s, " | ", "\n") + "\n")
	if spot != (api.Spot{}) {
		t.Fatalf("Read of %q: %v", s, spot)
	}
	return p
}

// plain is a program of this many inputs, registers, instructions and outs, all of which are r0.
func plain(ins, regs, code, outs int) api.Prog {
	return api.Prog{Ins: ins, Regs: regs, Code: slices.Repeat([]api.Instr{in(move, 0, 0, 0, 0)}, code), Outs: make([]int, outs)}
}

// least is the smallest program.
func least() api.Prog { return plain(1, 1, 0, 1) }

// example is U of the chapter.
func example() api.Unit {
	return api.Unit{K1: 1, K2: 1, Points: []api.Point{{A: 0, B: 1}}, Left: least(), Right: least(), Back: least()}
}

// rich is a unit in which no two parts are the same, and each list has several items.
func rich() api.Unit {
	return api.Unit{
		K1: 3, K2: 2, Points: []api.Point{{A: 0, B: 1}, {A: 1, B: 0}, {A: -16, B: 15}, {A: 5, B: -2}},
		Left:  api.Prog{Ins: 3, Regs: 5, Code: []api.Instr{in(add, 3, 0, 1, 0), in(mul, 4, 3, 0, -300), in(neg, 2, 4, 0, 0)}, Outs: []int{4, 2, 0}},
		Right: api.Prog{Ins: 2, Regs: 4, Code: []api.Instr{in(sub, 3, 1, 0, 0), in(shl, 2, 3, 0, 7), in(move, 1, 2, 0, 0)}, Outs: []int{1, 3}},
		Back:  api.Prog{Ins: 4, Regs: 128, Code: []api.Instr{in(div, 127, 3, 0, 257), in(shr, 9, 127, 0, 64)}, Outs: []int{127, 9, 0, 1}},
	}
}

// cloned is a unit in lists of its own.
func cloned(u api.Unit) api.Unit {
	u.Points = slices.Clone(u.Points)
	for _, p := range []*api.Prog{&u.Left, &u.Right, &u.Back} {
		p.Code, p.Outs = slices.Clone(p.Code), slices.Clone(p.Outs)
	}
	return u
}

// sides are a unit's programs, to be changed.
func sides(u *api.Unit) []*api.Prog { return []*api.Prog{&u.Left, &u.Right, &u.Back} }

// alike tells whether all parts of both units are the same, by no call of the project.
func alike(u, v api.Unit) bool {
	same := u.K1 == v.K1 && u.K2 == v.K2 && slices.Equal(u.Points, v.Points)
	others := sides(&v)
	for k, p := range sides(&u) {
		q := others[k]
		same = same && p.Ins == q.Ins && p.Regs == q.Regs && slices.Equal(p.Code, q.Code) && slices.Equal(p.Outs, q.Outs)
	}
	return same
}

// zero tells whether nothing stands in a unit.
func zero(u api.Unit) bool { return alike(u, api.Unit{}) }

// show is a unit as a failing test tells it: not all of a long one.
func show(u api.Unit) string {
	s := fmt.Sprintf("(%d %d, %d points %v", u.K1, u.K2, len(u.Points), u.Points[:min(len(u.Points), 20)])
	for _, p := range sides(&u) {
		s += fmt.Sprintf(", in %d regs %d, %d instructions %v, %d outs %v", p.Ins, p.Regs, len(p.Code), p.Code[:min(len(p.Code), 10)], len(p.Outs), p.Outs[:min(len(p.Outs), 20)])
	}
	return s + ")"
}

// tell is bytes as a failing test tells them: not all of many.
func tell(b []byte) string {
	return fmt.Sprintf("%d bytes %x", len(b), b[:min(len(b), 200)])
}

// oneByte and twoBytes are a number's bytes, by the chapter's words.
func oneByte(n int) byte {
	if n < 0 {
		n += 256
	}
	return byte(n % 256)
}

func twoBytes(n int) []byte {
	if n < 0 {
		n += 65536
	}
	return []byte{byte(n / 256), byte(n % 256)}
}

// checkOf are the two bytes of the check of these.
func checkOf(b []byte) []byte {
	var sum uint64
	for k, c := range b {
		sum += uint64(k+1) * uint64(c)
	}
	return twoBytes(int(sum % rest))
}

// sealed are bytes with their check behind them.
func sealed(b []byte) []byte { return slices.Concat(b, checkOf(b)) }

// bodyOf are the bytes of a unit that may be, ahead of its check, by the chapter's list.
func bodyOf(u api.Unit) []byte {
	b := []byte{0x41, 0x4e, 0x56, 0x31, oneByte(u.K1), oneByte(u.K2), oneByte(len(u.Points))}
	for _, p := range u.Points {
		b = append(b, oneByte(p.A), oneByte(p.B))
	}
	for _, p := range sides(&u) {
		b = append(b, oneByte(p.Ins), oneByte(p.Regs))
		b = append(b, twoBytes(len(p.Code))...)
		for _, i := range p.Code {
			b = append(b, oneByte(i.Op), oneByte(i.To), oneByte(i.A), oneByte(i.B))
			b = append(b, twoBytes(i.C)...)
		}
		b = append(b, oneByte(len(p.Outs)))
		for _, r := range p.Outs {
			b = append(b, oneByte(r))
		}
	}
	return b
}

// bytesOf are the bytes of a unit that may be.
func bytesOf(u api.Unit) []byte { return sealed(bodyOf(u)) }

// constants are all that an operation may have, by chapter 8's table.
func constants(op int) []int {
	var l []int
	switch op {
	case mul, div:
		for c := 1; c <= mostConst; c++ {
			l = append(l, c, -c)
		}
	case shl, shr:
		for c := 1; c <= mostShift; c++ {
			l = append(l, c)
		}
	default:
		l = append(l, 0)
	}
	return l
}

// asksBoth tells whether an operation asks B beside A.
func asksBoth(op int) bool { return op == add || op == sub }

// pairs tell of two bytes whether they say one of some numbers, and of one whether it is the high one of such two.
type pairs struct {
	both [256][256]bool
	high [256]bool
}

func pairsOf(numbers ...int) *pairs {
	p := &pairs{}
	for _, n := range numbers {
		b := twoBytes(n)
		p.both[b[0]][b[1]], p.high[b[0]] = true, true
	}
	return p
}

// judge tells of bytes whether they are a unit's, by the chapter's words: number by number what is allowed is held against what stands there.
type judge struct {
	counts    *pairs
	constants [9]*pairs // by their operation's number
}

func newJudge() *judge {
	j := &judge{}
	var counts []int
	for n := 0; n <= mostCode; n++ {
		counts = append(counts, n)
	}
	j.counts = pairsOf(counts...)
	for op := move; op <= shr; op++ {
		j.constants[op] = pairsOf(constants(op)...)
	}
	return j
}

// walk goes through bytes; stopped is what it panics with at the first one that is wrong.
type walk struct {
	b  []byte
	at int
}

type stopped struct{}

func (w *walk) take(may func(c byte) bool) byte {
	if w.at >= len(w.b) || !may(w.b[w.at]) {
		panic(stopped{})
	}
	w.at++
	return w.b[w.at-1]
}

func (w *walk) from(low, high int) int {
	return int(w.take(func(c byte) bool { return low <= int(c) && int(c) <= high }))
}

func (w *walk) pair(p *pairs) int {
	h := w.take(func(c byte) bool { return p.high[c] })
	l := w.take(func(c byte) bool { return p.both[h][c] })
	return int(h)*256 + int(l)
}

func (w *walk) coordinate() {
	w.take(func(c byte) bool { return c <= 16 || c >= 240 })
}

func (j *judge) program(w *walk) {
	ins := w.from(1, mostRegs)
	regs := w.from(ins, mostRegs)
	for n := w.pair(j.counts); n > 0; n-- {
		op := w.from(move, shr)
		w.from(0, regs-1)
		w.from(0, regs-1)
		if asksBoth(op) {
			w.from(0, regs-1)
		} else {
			w.from(0, 0)
		}
		w.pair(j.constants[op])
	}
	for n := w.from(1, mostRegs); n > 0; n-- {
		w.from(0, regs-1)
	}
}

// place is the place of the first byte with which the bytes of no unit go on, and whether these are none of a unit's.
func (j *judge) place(b []byte) (at int, none bool) {
	w := &walk{b: b}
	defer func() {
		at = w.at
		if r := recover(); r != nil {
			if r != (stopped{}) {
				panic(r)
			}
			none = true
		}
	}()
	for _, c := range "ANV1" {
		w.from(int(c), int(c))
	}
	w.from(1, mostParts)
	w.from(1, mostParts)
	for n := w.from(0, 255); n > 0; n-- {
		w.coordinate()
		w.coordinate()
	}
	for range 3 {
		j.program(w)
	}
	for _, c := range checkOf(b[:w.at]) {
		w.from(int(c), int(c))
	}
	return w.at, w.at < len(b)
}

// maker makes the same numbers in every run: a shift register, so that a test that fails does so again.
type maker uint64

func (m *maker) next() uint32 {
	*m ^= *m << 13
	*m ^= *m >> 7
	*m ^= *m << 17
	return uint32(*m >> 16)
}

// below is a number from 0 to below n.
func (m *maker) below(n int) int { return int(m.next() % uint32(n)) }

// one is one of a list.
func (m *maker) one(l ...int) int { return l[m.below(len(l))] }

// coordinate is one that is in, at both ends more often than others.
func (m *maker) coordinate() int {
	return m.one(-mostPoint, -1, 0, 1, mostPoint, m.below(2*mostPoint+1)-mostPoint)
}

// instr is an instruction that may be in a program of so many registers.
func (m *maker) instr(regs int) api.Instr {
	i := in(1+m.below(8), m.one(0, regs-1, m.below(regs)), m.one(0, regs-1, m.below(regs)), 0, 0)
	switch i.Op {
	case add, sub:
		i.B = m.one(0, regs-1, m.below(regs))
	case mul, div:
		i.C = m.one(-512, -511, -257, -256, -255, -1, 1, 255, 256, 257, 511, 512, 1+m.below(512), -1-m.below(512))
	case shl, shr:
		i.C = m.one(1, 2, 63, 64, 1+m.below(64))
	}
	return i
}

// program is one that may be, of up to so many instructions and outs.
func (m *maker) program(code, outs int) api.Prog {
	ins := m.one(1, 2, 3, mostRegs, 1+m.below(mostRegs))
	p := api.Prog{Ins: ins, Regs: m.one(ins, mostRegs, ins+m.below(mostRegs-ins+1))}
	for range m.below(code + 1) {
		p.Code = append(p.Code, m.instr(p.Regs))
	}
	for range 1 + m.below(outs) {
		p.Outs = append(p.Outs, m.one(0, p.Regs-1, m.below(p.Regs)))
	}
	return p
}

// unit is one that may be, of up to so many points, and of instructions and outs of each program.
func (m *maker) unit(points, code, outs int) api.Unit {
	u := api.Unit{K1: 1 + m.below(mostParts), K2: 1 + m.below(mostParts)}
	for range m.below(points + 1) {
		u.Points = append(u.Points, api.Point{A: m.coordinate(), B: m.coordinate()})
	}
	u.Left, u.Right, u.Back = m.program(code, outs), m.program(code, outs), m.program(code, outs)
	return u
}

// some are n units that may be, drawn at random, most of them small, and a few that are set by hand.
func some(n int) []api.Unit {
	m := maker(88172645463325252)
	u := example()
	u.Points = nil
	l := []api.Unit{example(), u, rich()}
	for k := range n {
		switch {
		case k%40 == 39:
			l = append(l, m.unit(mostPoints, 300, mostRegs))
		default:
			l = append(l, m.unit(k%7, k%9, 1+k%5))
		}
	}
	return l
}

// long are units with more than 65521 bytes: in one program, in all of them, at the limits of all lists.
func long() []api.Unit {
	m := maker(2463534242)
	u, v, w := rich(), rich(), rich()
	for range mostCode {
		u.Left.Code = append(u.Left.Code, m.instr(u.Left.Regs))
		for _, p := range sides(&v) {
			p.Code = append(p.Code, m.instr(p.Regs))
		}
		w.Back.Code = append(w.Back.Code, in(sub, 127, 127, 127, 0))
	}
	u.Left.Code = u.Left.Code[len(u.Left.Code)-mostCode:]
	for _, p := range sides(&v) {
		p.Ins, p.Regs, p.Outs, p.Code = mostRegs, mostRegs, slices.Repeat([]int{127}, mostRegs), p.Code[len(p.Code)-mostCode:]
	}
	v.Points = slices.Repeat([]api.Point{{A: -16, B: 16}}, mostPoints)
	w.Back.Code = w.Back.Code[len(w.Back.Code)-mostCode:]
	return []api.Unit{u, v, w}
}

// extremes are numbers at which something turns or wraps round, whatever limit is asked.
func extremes() []int {
	return []int{math.MinInt, math.MinInt + 1, -1 << 32, -1<<32 + 1, -65536, -65535, -256, -255, -1, 0, 1, 1 << 8, 1<<8 + 1, 1 << 16, 1<<16 + 1, 1 << 32, 1<<32 + 1, math.MaxInt - 1, math.MaxInt}
}

// wrongPrograms are programs that may not be, of each kind.
func wrongPrograms() []api.Prog {
	var l []api.Prog
	mend := func(f func(p *api.Prog)) {
		p := api.Prog{Ins: 2, Regs: 3, Code: []api.Instr{in(add, 2, 0, 1, 0), in(div, 1, 1, 0, 2)}, Outs: []int{2, 1}}
		f(&p)
		l = append(l, p)
	}
	for _, n := range []int{math.MinInt, -1, 0, 4, mostRegs + 1, 257, math.MaxInt} {
		mend(func(p *api.Prog) { p.Ins = n })
	}
	for _, n := range []int{math.MinInt, -1, 0, 1, mostRegs + 1, 256 + 3, math.MaxInt} {
		mend(func(p *api.Prog) { p.Regs = n })
	}
	for _, i := range []api.Instr{{}, in(9, 0, 0, 0, 0), in(256+move, 0, 0, 0, 0), in(-1, 0, 0, 0, 0), in(move, 3, 0, 0, 0), in(move, 256, 0, 0, 0), in(move, 0, -1, 0, 0), in(move, 0, 256, 0, 0), in(sub, 0, 0, 3, 0), in(sub, 0, 0, 256, 0), in(neg, 0, 0, 1, 0), in(neg, 0, 0, 256, 0), in(mul, 2, 0, 0, 0), in(mul, 2, 0, 0, -513), in(div, 2, 0, 0, 513), in(div, 2, 0, 0, 65536), in(shl, 0, 0, 0, 65), in(shl, 0, 0, 0, -1), in(shr, 0, 0, 0, 0), in(shr, 0, 0, 0, 65537), in(add, 0, 0, 0, 1), in(add, 0, 0, 0, 65536)} {
		mend(func(p *api.Prog) { p.Code = append(p.Code, i) })
		mend(func(p *api.Prog) { p.Code = append([]api.Instr{i}, p.Code...) })
	}
	for _, outs := range [][]int{nil, {}, {-1}, {3}, {2, 0, 3}, {256}, {math.MinInt}, {math.MaxInt}, make([]int, mostRegs+1), make([]int, 257)} {
		mend(func(p *api.Prog) { p.Outs = outs })
	}
	return append(l, api.Prog{}, plain(1, 1, mostCode+1, 1), plain(1, 1, 65536, 1), plain(129, 129, 0, 1))
}

// wrongHeads are units that are as they must be but for K1, K2 or the points.
func wrongHeads() []api.Unit {
	var l []api.Unit
	mend := func(f func(u *api.Unit)) {
		u := rich()
		f(&u)
		l = append(l, u)
	}
	for _, n := range append(extremes(), 9, 10, 255, 257) {
		if n != 1 {
			mend(func(u *api.Unit) { u.K1 = n })
			mend(func(u *api.Unit) { u.K2 = n })
			mend(func(u *api.Unit) { u.K1, u.K2 = n, n })
		}
	}
	for _, n := range append(extremes(), -17, 17, -18, 18, 240, 255, -240) {
		if n < -mostPoint || n > mostPoint {
			for k := range 4 {
				mend(func(u *api.Unit) { u.Points[k].A = n })
				mend(func(u *api.Unit) { u.Points[k].B = n })
			}
		}
	}
	for _, n := range []int{256, 257, 300, 512, 65536} {
		mend(func(u *api.Unit) { u.Points = make([]api.Point, n) })
	}
	return append(l, api.Unit{})
}
