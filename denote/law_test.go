package denote_test

import (
	"fmt"
	"math/big"
	"slices"
	"testing"

	"swage/api"
	"swage/denote"
	"swage/integer"
	"swage/matrix"
	"swage/prog"
	"swage/ratio"
)

// P9.6: Apply is each row, summed up with the numbers; of sums it is the sum of both.
func TestLinear(t *testing.T) {
	m := maker(71)
	for _, p := range some(400) {
		x, y := integers(m.numbers(p.Ins)), integers(m.numbers(p.Ins))
		sums := make([]integer.Int, p.Ins)
		for k := range sums {
			sums[k] = x[k].Add(y[k])
		}
		rows, e := denote.Rows(p)
		a, f := denote.Apply(p, x)
		b, g := denote.Apply(p, y)
		both, h := denote.Apply(p, sums)
		if e != api.OK || f != api.OK || g != api.OK || h != api.OK || len(rows) != len(a) {
			t.Fatalf("%s: %v, %v, %v, %v", show(p), e, f, g, h)
		}
		for i, l := range rows {
			sum := ratio.Rat{}
			for j, n := range x {
				sum = sum.Add(l[j].Mul(ratio.Whole(n)))
			}
			if sum.Cmp(a[i]) != 0 || both[i].Cmp(a[i].Add(b[i])) != 0 {
				t.Errorf("%s: the out %d is %s, not %s; of the sums %s", show(p), i, a[i].Text(), sum.Text(), both[i].Text())
			}
		}
	}
}

// chained are n pairs of programs, the second one of which has as many inputs as the first one has outs.
func chained(n int) [][2]api.Prog {
	m := maker(11)
	l := [][2]api.Prog{{example(), example()}, {plain(1, 1, 1), plain(1, 1, 1)}, {plain(1, 1, 16), plain(16, 16, 16)}}
	for k := range n {
		ins, middle, outs := 1+m.below(4), 1+m.below(4), 1+m.below(4)
		l = append(l, [2]api.Prog{m.program(ins, middle, ins+m.below(3), k%13), m.program(middle, outs, middle+m.below(3), k%11)})
	}
	return l
}

// P9.7: Matrix of Join is that of q times that of p, over both numbers' product, in lowest terms.
func TestJoined(t *testing.T) {
	for _, x := range chained(400) {
		both, e := prog.Join(x[0], x[1])
		if e != api.OK {
			t.Fatalf("Join of %s, %s: %v", show(x[0]), show(x[1]), e)
		}
		m, d, e := denote.Matrix(x[0])
		n, c, f := denote.Matrix(x[1])
		got, over, g := denote.Matrix(both)
		product, h := n.Times(m)
		if e != api.OK || f != api.OK || g != api.OK || h != api.OK {
			t.Fatalf("%s, %s: %v, %v, %v, %v", show(x[0]), show(x[1]), e, f, g, h)
		}
		least := lowered(t, product, d.Mul(c))
		if !got.Same(least.m) || over.Cmp(least.d) != 0 {
			t.Errorf("Matrix of %s and %s: %s over %s, not %s over %s", show(x[0]), show(x[1]), got.Text(), over.Text(), least.m.Text(), least.d.Text())
		}
		if is, e := denote.Is(both, product, d.Mul(c)); !is || e != api.OK {
			t.Errorf("Is of %s and %s: %v, %v", show(x[0]), show(x[1]), is, e)
		}
	}
}

// fraction is a matrix over a number.
type fraction struct {
	m matrix.Matrix
	d integer.Int
}

// lowered is a matrix over d in lowest terms: no number but 1 divides d and all others.
func lowered(t *testing.T, m matrix.Matrix, d integer.Int) fraction {
	t.Helper()
	common := number(d)
	var rows [][]integer.Int
	for i := range m.Rows() {
		l, _ := m.Row(i)
		for _, n := range l {
			common = new(big.Int).GCD(nil, nil, common, new(big.Int).Abs(number(n)))
		}
		rows = append(rows, l)
	}
	for _, l := range rows {
		for j, n := range l {
			l[j] = integers([]*big.Int{new(big.Int).Quo(number(n), common)})[0]
		}
	}
	low, e := matrix.New(rows...)
	if e != api.OK {
		t.Fatalf("New: %v", e)
	}
	return fraction{low, integers([]*big.Int{new(big.Int).Quo(number(d), common)})[0]}
}

// P9.8: the last row that Steps tells of a register is its row at the end; Is holds of Matrix, Same of a program and itself.
func TestLastSteps(t *testing.T) {
	for _, p := range some(400) {
		all := p
		all.Outs = plain(1, p.Regs, p.Regs).Outs
		rows, e := denote.Rows(all)
		last := map[int]string{}
		for k, l := range denote.Steps(p) {
			last[p.Code[k].To] = told(l)
		}
		for r, want := range last {
			if told(rows[r]) != want || e != api.OK {
				t.Errorf("%s: r%d has %s at the end, and was told as %s", show(p), r, told(rows[r]), want)
			}
		}
		m, d, e := denote.Matrix(p)
		is, f := denote.Is(p, m, d)
		same, g := denote.Same(p, p)
		if !is || !same || e != api.OK || f != api.OK || g != api.OK {
			t.Errorf("%s: %v, %v, %v, %v, %v", show(p), is, same, e, f, g)
		}
	}
}

// roomy is a program whose lists have room behind their ends, in which something stands.
func roomy(p api.Prog) api.Prog {
	p.Code = append(slices.Clone(p.Code), times(40, in(7, 7, 7, 7, 7))...)[:len(p.Code)]
	p.Outs = append(slices.Clone(p.Outs), 7, 7, 7, 7, 7)[:len(p.Outs)]
	return p
}

// state is all that stands in a program, and in the room of its lists.
func state(p api.Prog) string {
	return fmt.Sprint(p.Ins, p.Regs, len(p.Code), p.Code[:cap(p.Code)], len(p.Outs), p.Outs[:cap(p.Outs)])
}

// R3: what is handed in stays as it is, the room behind its end too, by every call.
func TestListsStay(t *testing.T) {
	for _, x := range append(chained(60), [2]api.Prog{{}, example()}, [2]api.Prog{wide(1, 1), wrong()[0]}) {
		p, q := roomy(x[0]), roomy(x[1])
		wasP, wasQ := state(p), state(q)
		numbers := append(list(5, -6, 7, 8), of(9), of(10))[:max(p.Ins, 0)]
		m := grid(t, "[[1 -1] [2 0]]")
		den := of(-2)
		denote.Rows(p)
		for range denote.Steps(p) {
		}
		denote.Apply(p, numbers)
		denote.Same(p, q)
		denote.Is(p, m, den)
		denote.Matrix(p)
		if state(p) != wasP || state(q) != wasQ {
			t.Errorf("now %s, %s", show(p), show(q))
		}
		for k, want := range []int64{5, -6, 7, 8, 9, 10} {
			if numbers[:6][k].Cmp(of(want)) != 0 {
				t.Errorf("the number %d is %s now", k, numbers[:6][k].Text())
			}
		}
		if m.Text() != "[[1 -1] [2 0]]" || den.Text() != "-2" {
			t.Errorf("now %s over %s", m.Text(), den.Text())
		}
	}
}

// spoil writes into all memory of a row, behind its end too, where nothing may have stood.
func spoil(t *testing.T, l []ratio.Rat) {
	t.Helper()
	for k, x := range l[:cap(l)] {
		if k >= len(l) && x.Sign() != 0 {
			t.Errorf("behind the end: %s", x.Text())
		}
		l[:cap(l)][k] = ratio.Whole(of(-99))
	}
}

// R3: the lists that are answered are new memory, each for itself, the room behind their ends too.
func TestListsAreNew(t *testing.T) {
	for _, p := range append(some(150), plain(1, 1, 7), plain(3, 5, 11)) {
		want := meant(p)
		for range 2 {
			rows, _ := denote.Rows(p)
			for k, l := range rows {
				if !sayAll(l, want.rows[k]) {
					t.Fatalf("%s: the out %d is %s", show(p), k, told(l))
				}
				spoil(t, l)
			}
			for k, l := range rows[:cap(rows)] {
				if k >= len(rows) && l != nil {
					t.Errorf("behind the end of Rows: %s", told(l))
				}
				rows[:cap(rows)][k] = nil
			}
			for k, l := range denote.Steps(p) {
				if !sayAll(l, want.steps[k]) {
					t.Fatalf("%s: the step %d is %s", show(p), k, told(l))
				}
				spoil(t, l)
			}
			ones := slices.Repeat(list(1), p.Ins)
			l, _ := denote.Apply(p, ones)
			_, outs := trace(p, wholes(slices.Repeat([]*big.Int{big.NewInt(1)}, p.Ins)))
			if !sayAll(l, outs) {
				t.Fatalf("%s: Apply: %s", show(p), told(l))
			}
			spoil(t, l)
		}
	}
}

// R3: rows that were told stay, whatever is told behind them; an answer keeps nothing of what was handed in.
func TestAnswersStay(t *testing.T) {
	for _, p := range some(60) {
		want := meant(p)
		own := prog.Copy(p)
		numbers := slices.Repeat(list(3), p.Ins)
		var steps [][]ratio.Rat
		for _, l := range denote.Steps(own) {
			steps = append(steps, l)
		}
		rows, _ := denote.Rows(own)
		l, _ := denote.Apply(own, numbers)
		text := told(l)
		clear(own.Code)
		clear(own.Outs)
		for k := range numbers {
			numbers[k] = of(-8)
		}
		if !slices.EqualFunc(steps, want.steps, sayAll) || !slices.EqualFunc(rows, want.rows, sayAll) || told(l) != text {
			t.Errorf("%s: now %s", show(p), toldAll(rows))
		}
	}
}

// R5: programs and iterators may be asked by several goroutines at one time.
func TestAtOneTime(t *testing.T) {
	p := example()
	steps := denote.Steps(p)
	answers := make(chan string)
	for range 8 {
		go func() {
			s := ""
			for k, l := range steps {
				s += fmt.Sprint(k, " ", told(l), ", ")
				l[0] = ratio.Rat{}
			}
			m, d, _ := denote.Matrix(p)
			l, _ := denote.Apply(p, list(4, 7))
			same, _ := denote.Same(p, p)
			answers <- s + m.Text() + d.Text() + ", " + told(l) + fmt.Sprint(", ", same)
		}()
	}
	for range 8 {
		if got := <-answers; got != "0 1 -1, 1 1/2 -1/2, [[1 -1] [2 0]]2, -3/2 4, true" {
			t.Error(got)
		}
	}
}
