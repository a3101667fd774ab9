package synth_test

import (
	"math"
	"math/big"
	"slices"
	"testing"

	"swage/api"
	"swage/prog"
	"swage/synth"
)

// program is Program, which must not be refused.
func program(t *testing.T, l []api.Point) api.Prog {
	t.Helper()
	p, e := synth.Program(l)
	if e != api.OK {
		t.Fatalf("Program of %v: %v", l, e)
	}
	return p
}

// ordered is Ordered, which must not be refused.
func ordered(t *testing.T, l []api.Point, order []int) api.Prog {
	t.Helper()
	p, e := synth.Ordered(l, order)
	if e != api.OK {
		t.Fatalf("Ordered of %v, %v: %v", l, order, e)
	}
	return p
}

// P12.2, P12.3, P12.7: lists at the edges, and many others of each length, by their own order and by falling ones.
func TestProgram(t *testing.T) {
	m := maker(11)
	for _, l := range slices.Concat(edges(t), m.lists(12)) {
		hold(t, program(t, l), l)
		falling := rising(len(l))
		slices.Reverse(falling)
		hold(t, ordered(t, l, falling), l)
	}
}

// P12.2, P12.3: every point that is in, alone, with one other, and among several.
func TestEveryPoint(t *testing.T) {
	m := maker(12)
	for _, p := range every() {
		if p == at(0, 0) {
			continue
		}
		alone := program(t, []api.Point{p})
		hold(t, alone, []api.Point{p})
		if outs, goes := ran(alone, []*big.Int{big.NewInt(-7)}); !goes || !same(outs, []*big.Int{big.NewInt(-7)}) {
			t.Errorf("Program of %v alone: %s", p, show(alone))
		}
		for n := 2; n <= 5; n++ {
			l := m.points(n, mostPoint)
			l[m.below(n)] = p
			if synth.Right(l) {
				hold(t, program(t, l), l)
			}
		}
	}
}

// P12.2, P12.3: every two norms.
func TestEveryPair(t *testing.T) {
	l := norms()
	for i, p := range l {
		for _, q := range l[:i] {
			pair := []api.Point{p, q}
			hold(t, program(t, pair), pair)
		}
	}
}

// P12.3: by how much a point that is not its own norm may cost more, for each factor and each count, alone so and all of them so.
func TestFactors(t *testing.T) {
	small := []api.Point{at(0, 1), at(1, 0), at(1, 1), at(-1, 1)}
	others := append(slices.Clone(small), norms()...)
	for n := 1; n <= mostPoints; n++ {
		for c := -mostPoint; c <= mostPoint; c++ {
			for _, p := range append(small, at(2, 1), at(-1, 3)) {
				q := at(c*p.A, c*p.B)
				if c == 0 || max(q.A, -q.A, q.B, -q.B) > mostPoint {
					continue
				}
				l := []api.Point{q}
				for _, r := range others {
					if len(l) < n && synth.Right(append(l, r)) {
						l = append(l, r)
					}
				}
				hold(t, program(t, l), l)
				if n > len(small) || amount(c) == 1 {
					continue
				}
				for i, r := range small[:n] {
					l[i] = at(c*r.A, c*r.B)
				}
				hold(t, program(t, l[:n]), l[:n])
			}
		}
	}
}

// P12.3: where Det is 1 nothing is divided, and nothing twice where it is more.
func TestDivisions(t *testing.T) {
	for s, want := range map[string]int{"0": 0, "0 1": 0, "0 inf": 0, "0 2": 1, "0 1 inf": 0, "0 1 -1": 1, "0 3 6": 3, "0 1 -1 2 inf": 4, "0 2 4 6 8": 10, "(0:2)": 0, "(0:-1) (-1:0)": 0, "(0:3) inf": 1, "(0:-3) (-2:0)": 2} {
		l := points(t, s)
		if n := divisions(program(t, l)); n > want {
			t.Errorf("Program of %s: %d divisions, not %d", s, n, want)
		}
	}
}

// P12.2: the same points, the same program; whatever was asked between, and whatever memory they are in.
func TestSameProgram(t *testing.T) {
	m := maker(13)
	lists := slices.Concat(edges(t), m.lists(3))
	var first []api.Prog
	for _, l := range lists {
		first = append(first, program(t, l))
		order := m.order(len(l))
		p, again := ordered(t, l, order), ordered(t, slices.Clone(l), slices.Clone(order))
		if !prog.Same(p, again) {
			t.Errorf("Ordered of %v, %v: %s, then %s", l, order, show(p), show(again))
		}
	}
	for k, l := range slices.Backward(lists) {
		if again := program(t, slices.Clone(l)); !prog.Same(first[k], again) {
			t.Errorf("Program of %v: %s, then %s", l, show(first[k]), show(again))
		}
	}
}

// orders calls f with every order of n points.
func orders(n int, f func(order []int)) {
	order := rising(n)
	var place func(k int)
	place = func(k int) {
		if k == n {
			f(order)
			return
		}
		for i := k; i < n; i++ {
			order[k], order[i] = order[i], order[k]
			place(k + 1)
			order[k], order[i] = order[i], order[k]
		}
	}
	place(0)
}

// P12.2, P12.3: all orders of a few points, and any of more; the inputs stay in the points' own order.
func TestOrdered(t *testing.T) {
	for _, s := range []string{"0", "(16:0)", "0 1", "inf (2:-2)", "0 1 inf", "(-3:0) 1/2 -2/3", "0 1 -1 inf", "15/16 -16/13 (4:6) 0", "0 1 -1 2 inf", "16 -1/16 (-5:15) 7/9 (0:-4)"} {
		l := points(t, s)
		orders(len(l), func(order []int) { hold(t, ordered(t, l, order), l) })
	}
	m := maker(14)
	for _, l := range slices.Concat(edges(t), m.lists(9)) {
		for range 3 {
			hold(t, ordered(t, l, m.order(len(l))), l)
		}
	}
}

// P12.2: ErrArg of a list that is no order: a number twice, too few, too many, below 0, too great.
func TestNoOrder(t *testing.T) {
	m := maker(15)
	refused := func(l []api.Point, order []int) {
		t.Helper()
		if p, e := synth.Ordered(l, order); !zero(p) || e != api.ErrArg {
			t.Errorf("Ordered of %v, %v: %s, %v", l, order[:min(len(order), 20)], show(p), e)
		}
	}
	refused(points(t, "0 1 inf"), []int{2, 0, 0})
	refused(points(t, "0 1"), []int{0})
	for n := 1; n <= mostPoints; n++ {
		l := m.points(n, mostPoint)
		for _, order := range [][]int{nil, {}, rising(n - 1), rising(n + 1), rising(n)[1:], append(rising(n), 0), append(rising(n), n-1), rising(2 * n), rising(1 << 16), make([]int, n+1)} {
			refused(l, order)
		}
		for k := range n {
			for _, wrong := range []int{-1, n, n + 1, -n, 1 << 32, 1<<32 + k, 1<<8 + k, math.MinInt, math.MaxInt, (k + 1) % n} {
				order := m.order(n)
				if order[slices.Index(order, k)] = wrong; !isOrder(order, n) {
					refused(l, order)
				}
			}
		}
	}
}

// Not promised, but not to be lost unseen: how short the programs are, and that they have no register that they do not name.
func TestShort(t *testing.T) {
	for _, x := range []struct {
		l          string
		code, best int
	}{
		{"0 1 inf", 2, 2}, {"inf 1 0", 2, 2}, {"0 1 -1", 5, 5}, {"0 1 -1 inf", 7, 7}, {"0 1 -1 2 inf", 16, 16}, {"inf 2 -1 1 0", 21, 16}, {"0 1 -1 1/2 inf", 20, 17}, {"-1/2 1 -1 0 inf", 22, 16}, {"0 1 -1 2 -2 1/2 -1/2 inf", 79, 75},
		{"inf 0 1 -1 1/2 -1/2 1/3 -1/3 1/4 -1/4 1/5", 159, 154}, {"0 1 -1 2 -2 1/2 -1/2 4 -4 1/4 -1/4 8 -8 1/8 inf", 383, 373}, {"0 inf 1 -1 2 -2 3 -3 4 -4 5 -5 6 -6 7", 348, 327},
		{"(0:16) (16:0) (16:16) (-16:16) (14:7) (-14:7) (7:14) (-7:14) (15:5) (-15:5) (5:15) (-5:15) (16:12) (-16:12) (12:16)", 487, 476}, {"13/16 15/16 11/16 -13/16 -15/16 -11/16 16/13 16/11 16/15 -16/13 -16/15 -16/11 14/15 -14/15 7/16", 1582, 1409},
	} {
		l := points(t, x.l)
		p := program(t, l)
		q, _, _ := synth.Best(l)
		if len(p.Code) > x.code || len(q.Code) > x.best {
			t.Errorf("at %s: %d and %d instructions, not %d and %d", x.l, len(p.Code), len(q.Code), x.code, x.best)
		}
		for _, p := range []api.Prog{p, q} {
			last := p.Ins - 1
			for _, i := range p.Code {
				last = max(last, i.To)
			}
			if p.Regs != last+1 || p.Regs > len(l)+3 {
				t.Errorf("at %s: %d registers, and r%d is the last one", x.l, p.Regs, last)
			}
		}
	}
}
