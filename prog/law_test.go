package prog_test

import (
	"math/big"
	"slices"
	"testing"

	"swage/api"
	"swage/prog"
)

// spoil writes into all memory of a program's lists, the room behind their ends too.
func spoil(p api.Prog) {
	for k := range p.Code[:cap(p.Code)] {
		p.Code[:cap(p.Code)][k] = in(-9, -9, -9, -9, -9)
	}
	for k := range p.Outs[:cap(p.Outs)] {
		p.Outs[:cap(p.Outs)][k] = -9
	}
}

// clean asks that nothing stands behind the ends of a program's lists.
func clean(t *testing.T, p api.Prog) {
	t.Helper()
	for _, i := range p.Code[len(p.Code):cap(p.Code)] {
		if i != (api.Instr{}) {
			t.Errorf("behind the end: %v", i)
		}
	}
	for _, r := range p.Outs[len(p.Outs):cap(p.Outs)] {
		if r != 0 {
			t.Errorf("behind the end: %d", r)
		}
	}
}

// joined is what the chapter's words say of two programs that may be joined.
func joined(p, q api.Prog) api.Prog {
	n := p.Regs
	both := api.Prog{Ins: p.Ins, Regs: n + q.Regs}
	both.Code = append(both.Code, p.Code...)
	for k := range q.Ins {
		both.Code = append(both.Code, in(move, n+k, p.Outs[k], 0, 0))
	}
	for _, i := range q.Code {
		b := 0
		if asked(i.Op) == 2 {
			b = i.B + n
		}
		both.Code = append(both.Code, in(i.Op, i.To+n, i.A+n, b, i.C))
	}
	for _, r := range q.Outs {
		both.Outs = append(both.Outs, r+n)
	}
	return both
}

// P8.5: the chapter's example, and others written out.
func TestJoin(t *testing.T) {
	for _, x := range [][3]string{
		{"in 2 regs 3 | r2 = r0 - r1 | r2 = r2 / 2 | out r2 r0", "in 2 regs 3 | r2 = r0 - r1 | r2 = r2 / 2 | out r2 r0", "in 2 regs 6 | r2 = r0 - r1 | r2 = r2 / 2 | r3 = r2 | r4 = r0 | r5 = r3 - r4 | r5 = r5 / 2 | out r5 r3"},
		{"in 1 regs 1 | out r0", "in 1 regs 1 | out r0", "in 1 regs 2 | r1 = r0 | out r1"},
		{"in 1 regs 4 | out r3 r0 r3", "in 3 regs 3 | out r2 r1 r0 r0", "in 1 regs 7 | r4 = r3 | r5 = r0 | r6 = r3 | out r6 r5 r4 r4"},
		{"in 3 regs 3 | r0 = r1 + r2 | out r0", "in 1 regs 2 | r1 = -r0 | r1 = r1 * -7 | r0 = r0 << 3 | r0 = r1 + r0 | r0 = r0 >> 2 | r0 = r0 / 5 | r1 = r0 | out r1 r0", "in 3 regs 5 | r0 = r1 + r2 | r3 = r0 | r4 = -r3 | r4 = r4 * -7 | r3 = r3 << 3 | r3 = r4 + r3 | r3 = r3 >> 2 | r3 = r3 / 5 | r4 = r3 | out r4 r3"},
	} {
		p, q, want := read(t, x[0]), read(t, x[1]), read(t, x[2])
		if both, e := prog.Join(p, q); !alike(both, want) || e != api.OK {
			t.Errorf("Join of %s and %s: %s, %v", x[0], x[1], show(both), e)
		}
	}
}

// P8.5: Range of each number of outs and inputs, ahead of Long.
func TestJoinRange(t *testing.T) {
	for outs := 1; outs <= mostRegs; outs++ {
		for _, ins := range []int{1, 2, outs - 1, outs, outs + 1, mostRegs} {
			if ins < 1 || ins > mostRegs {
				continue
			}
			want := api.OK
			switch {
			case ins != outs:
				want = api.ErrRange
			case ins+1 > mostRegs:
				want = api.ErrLong
			}
			both, e := prog.Join(plain(1, 1, 0, outs), plain(ins, ins, 0, 1))
			if e != want || zero(both) != (want != api.OK) {
				t.Errorf("%d outs, %d inputs: %s, %v", outs, ins, show(both), e)
			}
		}
	}
	for _, x := range [][2]api.Prog{{plain(1, 128, 0, 1), plain(2, 128, 0, 1)}, {plain(1, 1, mostCode, 2), plain(1, 1, mostCode, 1)}} {
		if both, e := prog.Join(x[0], x[1]); !zero(both) || e != api.ErrRange {
			t.Errorf("Join: %s, %v", show(both), e)
		}
	}
}

// P8.5: registers and instructions at their limits, and one more.
func TestJoinLong(t *testing.T) {
	for _, x := range []struct {
		p, q api.Prog
		want api.Errno
	}{
		{plain(1, 64, 0, 1), plain(1, 64, 0, 1), api.OK}, {plain(1, 64, 0, 1), plain(1, 65, 0, 1), api.ErrLong}, {plain(1, 65, 0, 1), plain(1, 64, 0, 1), api.ErrLong}, {plain(1, 127, 0, 1), plain(1, 1, 0, 1), api.OK}, {plain(1, 128, 0, 1), plain(1, 1, 0, 1), api.ErrLong}, {plain(1, 1, 0, 1), plain(1, 127, 0, 1), api.OK}, {plain(1, 1, 0, 1), plain(1, 128, 0, 1), api.ErrLong}, {plain(1, 128, 0, 1), plain(1, 128, 0, 1), api.ErrLong}, {plain(1, 64, 0, 64), plain(64, 64, 0, 128), api.OK},
		{plain(1, 1, mostCode-1, 1), plain(1, 1, 0, 1), api.OK}, {plain(1, 1, mostCode, 1), plain(1, 1, 0, 1), api.ErrLong}, {plain(1, 1, 0, 1), plain(1, 1, mostCode-1, 1), api.OK}, {plain(1, 1, 0, 1), plain(1, 1, mostCode, 1), api.ErrLong}, {plain(1, 1, mostCode/2, 1), plain(1, 1, mostCode/2-1, 1), api.OK}, {plain(1, 1, mostCode/2, 1), plain(1, 1, mostCode/2, 1), api.ErrLong}, {plain(1, 1, mostCode, 1), plain(1, 1, mostCode, 1), api.ErrLong},
		{plain(1, 1, mostCode-9, 5), plain(5, 5, 4, 1), api.OK}, {plain(1, 1, mostCode-9, 5), plain(5, 5, 5, 1), api.ErrLong}, {plain(1, 1, mostCode-8, 5), plain(5, 5, 4, 1), api.ErrLong}, {plain(1, 64, mostCode-64, 64), plain(64, 64, 0, 64), api.OK}, {plain(1, 64, mostCode-63, 64), plain(64, 64, 0, 64), api.ErrLong},
	} {
		both, e := prog.Join(x.p, x.q)
		if e != x.want || e != api.OK && !zero(both) || e == api.OK && !alike(both, joined(x.p, x.q)) {
			t.Errorf("Join of %s and %s: %s, %v", show(x.p), show(x.q), show(both), e)
		}
		if _, e := prog.Check(both); x.want == api.OK && e != api.OK {
			t.Errorf("Check: %v", e)
		}
	}
}

// pairs are programs of which the second one has as many inputs as the first one has outs.
func pairs(n int) [][2]api.Prog {
	m := maker(88172645463325252)
	var l [][2]api.Prog
	for k := range n {
		between := 1 + m.below(4)
		l = append(l, [2]api.Prog{m.program(1+m.below(3), between, 3+k%60, 12), m.program(between, 1+m.below(4), 4+k%60, 12)})
	}
	return l
}

// P8.5, P8.7: what both have, and what they answer.
func TestJoinMany(t *testing.T) {
	m := maker(5)
	for _, x := range pairs(400) {
		p, q := x[0], x[1]
		both, e := prog.Join(p, q)
		if !alike(both, joined(p, q)) || e != api.OK {
			t.Fatalf("Join of %s and %s: %s, %v", show(p), show(q), show(both), e)
		}
		if k, e := prog.Check(both); k != 0 || e != api.OK {
			t.Errorf("Check of %s: %d, %v", show(both), k, e)
		}
		ins := m.rats(p.Ins)
		if got, want := run(both, ins), run(q, run(p, ins)); !slices.EqualFunc(got, want, func(a, b *big.Rat) bool { return a.Cmp(b) == 0 }) {
			t.Errorf("Join of %s and %s answers %v, not %v", show(p), show(q), got, want)
		}
		a, _ := prog.Count(p)
		b, _ := prog.Count(q)
		if c, e := prog.Count(both); c != together(together(a, b), prog.Counts{Moves: len(p.Outs)}) || e != api.OK {
			t.Errorf("Count of Join: %v, %v; of both %v, %v", c, e, a, b)
		}
		first, _ := prog.Depth(p)
		second, _ := prog.Depth(q)
		if d, e := prog.Depth(both); d > first+second+1 || e != api.OK {
			t.Errorf("Depth of Join: %d, %v; of both %d, %d", d, e, first, second)
		}
	}
}

// without is a program but for the instructions at these places.
func without(p api.Prog, out func(k int) bool) api.Prog {
	q := api.Prog{Ins: p.Ins, Regs: p.Regs, Outs: p.Outs}
	for k, i := range p.Code {
		if !out(k) {
			q.Code = append(q.Code, i)
		}
	}
	return q
}

// P8.7: without what is not needed, one by one and all of it, the same is answered, and all else is needed as it was.
func TestNeededAlone(t *testing.T) {
	m := maker(11)
	for _, p := range some(300) {
		needed, _ := prog.Needed(p)
		ins := m.rats(p.Ins)
		want := run(p, ins)
		lean := without(p, func(k int) bool { return !needed[k] })
		if l, e := prog.Needed(lean); slices.Contains(l, false) || len(l) != len(lean.Code) || e != api.OK {
			t.Errorf("Needed of what is needed of %s: %v, %v", show(p), l, e)
		}
		rest := []api.Prog{lean}
		for k := range p.Code {
			if needed[k] {
				continue
			}
			q := without(p, func(m int) bool { return m == k })
			if l, e := prog.Needed(q); !slices.Equal(l, slices.Delete(slices.Clone(needed), k, k+1)) || e != api.OK {
				t.Errorf("Needed of %s without %d: %v, %v", show(p), k, l, e)
			}
			rest = append(rest, q)
		}
		for _, q := range rest {
			if got := run(q, ins); !slices.EqualFunc(got, want, func(a, b *big.Rat) bool { return a.Cmp(b) == 0 }) {
				t.Errorf("%s answers %v, %s answers %v", show(p), want, show(q), got)
			}
		}
	}
}

// P8.7
func TestReadOfText(t *testing.T) {
	for _, x := range pairs(200) {
		both, _ := prog.Join(x[0], x[1])
		for _, p := range []api.Prog{x[0], x[1], both} {
			text, e := prog.Text(p)
			q, spot := prog.Read(text)
			if again, f := prog.Text(q); !prog.Same(p, q) || again != text || e != api.OK || f != api.OK || spot != (api.Spot{}) {
				t.Errorf("Read of Text of %s: %s, %v", show(p), show(q), spot)
			}
		}
	}
}

// roomy is a program whose lists have room behind their ends, in which something stands.
func roomy(p api.Prog) api.Prog {
	p.Code = append(append(make([]api.Instr, 0, 2*len(p.Code)+300), p.Code...), slices.Repeat([]api.Instr{in(7, 7, 7, 7, 7)}, 300)...)[:len(p.Code)]
	p.Outs = append(append(make([]int, 0, 2*len(p.Outs)+300), p.Outs...), slices.Repeat([]int{7}, 300)...)[:len(p.Outs)]
	return p
}

// whole is a program with all the room of its lists, in lists of its own.
func whole(p api.Prog) api.Prog {
	p.Code = append([]api.Instr{}, p.Code[:cap(p.Code)]...)
	p.Outs = append([]int{}, p.Outs[:cap(p.Outs)]...)
	return p
}

// R3: what is handed in stays as it is, the room behind its end too, by every call.
func TestListsStay(t *testing.T) {
	for _, x := range append(pairs(40), [2]api.Prog{example(), example()}, [2]api.Prog{{}, example()}, [2]api.Prog{plain(1, 1, 0, 1), plain(1, 1, 0, 1)}) {
		p, q := roomy(x[0]), roomy(x[1])
		wasP, wasQ := whole(p), whole(q)
		prog.Check(p)
		prog.Text(p)
		prog.Same(p, q)
		prog.Copy(p)
		prog.Count(p)
		prog.Needed(p)
		prog.Depth(p)
		prog.Join(p, q)
		for range prog.Back(p) {
		}
		if !alike(whole(p), wasP) || !alike(whole(q), wasQ) {
			t.Errorf("now %s, %s", show(p), show(q))
		}
	}
}

// R3: lists that are answered are new memory, with nothing behind their ends.
func TestListsAreNew(t *testing.T) {
	for _, x := range append(pairs(40), [2]api.Prog{example(), example()}, [2]api.Prog{plain(1, 1, 0, 1), plain(1, 1, 0, 1)}) {
		p, q := roomy(x[0]), roomy(x[1])
		wasP, wasQ := whole(p), whole(q)
		for range 2 {
			c := prog.Copy(p)
			both, _ := prog.Join(p, q)
			text, _ := prog.Text(p)
			r, _ := prog.Read(text)
			if !alike(c, x[0]) || !alike(both, joined(x[0], x[1])) || !alike(r, x[0]) {
				t.Errorf("%s, %s, %s", show(c), show(both), show(r))
			}
			for _, l := range []api.Prog{c, both, r} {
				clean(t, l)
				spoil(l)
			}
			if !alike(whole(p), wasP) || !alike(whole(q), wasQ) {
				t.Fatalf("now %s, %s", show(p), show(q))
			}
		}
		first, _ := prog.Needed(p)
		was := slices.Clone(first)
		for k := range first[:cap(first)] {
			if k >= len(first) && first[:cap(first)][k] {
				t.Error("behind the end of Needed")
			}
			first[:cap(first)][k] = k%2 == 0
		}
		if second, _ := prog.Needed(p); !slices.Equal(second, was) {
			t.Errorf("Needed: now %v", second)
		}
	}
	for op := range 10 {
		i := in(op, 1, 2, 3, 4)
		first := prog.Asks(i)
		for k := range first[:cap(first)] {
			first[:cap(first)][k] = -9
		}
		if second := prog.Asks(i); !slices.Equal(second, []int{2, 3}[:asked(op)]) {
			t.Errorf("Asks: now %v", second)
		}
	}
}

// R3: an answer keeps nothing of what was handed in: writing into that later changes no answer.
func TestAnswersStay(t *testing.T) {
	for _, x := range pairs(60) {
		p, q := cloned(x[0]), cloned(x[1])
		c := prog.Copy(p)
		both, _ := prog.Join(p, q)
		spoil(p)
		spoil(q)
		if !alike(c, x[0]) || !alike(both, joined(x[0], x[1])) {
			t.Errorf("now %s, %s", show(c), show(both))
		}
	}
}

// R5: programs and iterators may be asked by several goroutines at one time.
func TestAtOneTime(t *testing.T) {
	p := example()
	back := prog.Back(p)
	want, _ := prog.Join(p, p)
	answers := make(chan bool)
	for range 8 {
		go func() {
			sum := 0
			for k, i := range back {
				sum += 10*k + i.Op
			}
			both, e := prog.Join(p, p)
			d, _ := prog.Depth(both)
			answers <- sum == 10+div+sub && prog.Same(both, want) && e == api.OK && d == 5
		}()
	}
	for range 8 {
		if !<-answers {
			t.Error("another answer")
		}
	}
}
