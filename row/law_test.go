package row_test

import (
	"testing"

	"swage/api"
	"swage/integer"
	"swage/row"
)

// few are rows of one length, of each sort, so few that three of them may be taken together.
func few(n int) [][]integer.Int {
	m := maker(31)
	all := [][]integer.Int{make([]integer.Int, n)}
	for k := range n {
		unit, _ := row.Unit(n, k)
		all = append(all, unit, row.Neg(unit))
	}
	for range 6 {
		all = append(all, m.row(n))
	}
	return all
}

// factors are numbers by which rows are scaled.
func factors() []integer.Int {
	return []integer.Int{{}, of(1), of(-1), of(6), of(-12), of(1 << 32), integer.Make(true, []uint32{top, 0, 5})}
}

// plus and dot are Add and Dot of rows that are as long as each other.
func plus(t *testing.T, a, b []integer.Int) []integer.Int {
	t.Helper()
	l, e := row.Add(a, b)
	if e != api.OK {
		t.Errorf("Add(%s, %s): %v", show(a), show(b), e)
	}
	return l
}

func dot(t *testing.T, a, b []integer.Int) integer.Int {
	t.Helper()
	x, e := row.Dot(a, b)
	if e != api.OK {
		t.Errorf("Dot(%s, %s): %v", show(a), show(b), e)
	}
	return x
}

// same tells whether rows are the same, by no call of the package.
func same(a, b []integer.Int) bool { return says(a, values(b)) }

// P4.6
func TestModule(t *testing.T) {
	for n := range 4 {
		for _, a := range few(n) {
			if !same(plus(t, a, make([]integer.Int, n)), a) || !row.IsZero(plus(t, a, row.Neg(a))) || !same(row.Scale(a, of(-1)), row.Neg(a)) || !same(row.Scale(a, of(1)), a) || !row.IsZero(row.Scale(a, of(0))) {
				t.Errorf("%s: 0 and 1", show(a))
			}
			for _, b := range few(n) {
				both := plus(t, a, b)
				if !same(both, plus(t, b, a)) {
					t.Errorf("%s, %s: the order matters", show(a), show(b))
				}
				if back, e := row.Sub(both, b); !same(back, a) || e != api.OK {
					t.Errorf("%s, %s: Sub does not undo Add: %s, %v", show(a), show(b), show(back), e)
				}
				for _, c := range few(n) {
					if !same(plus(t, both, c), plus(t, a, plus(t, b, c))) {
						t.Errorf("%s, %s, %s: it matters which are done first", show(a), show(b), show(c))
					}
				}
				for _, c := range factors() {
					if !same(row.Scale(both, c), plus(t, row.Scale(a, c), row.Scale(b, c))) {
						t.Errorf("Scale of %s and %s by %s", show(a), show(b), c.Text())
					}
				}
			}
		}
	}
}

// P4.6: Scale over the sums and products of what it scales by.
func TestScaleTwice(t *testing.T) {
	for _, a := range few(3) {
		for _, c := range factors() {
			for _, d := range factors() {
				if !same(row.Scale(a, c.Add(d)), plus(t, row.Scale(a, c), row.Scale(a, d))) || !same(row.Scale(a, c.Mul(d)), row.Scale(row.Scale(a, c), d)) {
					t.Errorf("Scale of %s by %s and %s", show(a), c.Text(), d.Text())
				}
			}
		}
	}
}

// P4.6
func TestDotGoesOverCombine(t *testing.T) {
	c, d := of(-12), integer.Make(false, []uint32{3, 1})
	for n := range 4 {
		for _, a := range few(n) {
			for _, b := range few(n) {
				if dot(t, a, b).Cmp(dot(t, b, a)) != 0 {
					t.Errorf("Dot of %s and %s: the order matters", show(a), show(b))
				}
				both, e := row.Combine(c, a, d, b)
				if !same(both, plus(t, row.Scale(a, c), row.Scale(b, d))) || e != api.OK {
					t.Errorf("Combine of %s and %s: %s, %v", show(a), show(b), show(both), e)
				}
				for _, x := range few(n) {
					if dot(t, both, x).Cmp(c.Mul(dot(t, a, x)).Add(d.Mul(dot(t, b, x)))) != 0 {
						t.Errorf("Dot over Combine: %s, %s, %s", show(a), show(b), show(x))
					}
				}
			}
		}
	}
}

// P4.6
func TestPrimitiveLaws(t *testing.T) {
	for _, a := range rows(100) {
		l, g := row.Primitive(a)
		if !same(row.Scale(l, g), a) {
			t.Errorf("Primitive of %s: %s times %s", show(a), show(l), g.Text())
		}
		want := of(1)
		if row.IsZero(a) {
			want = of(0)
		}
		if c := row.Content(l); c.Cmp(want) != 0 {
			t.Errorf("Primitive of %s: Content %s", show(a), c.Text())
		}
		if again, one := row.Primitive(l); !same(again, l) || one.Cmp(want) != 0 {
			t.Errorf("Primitive of %s, twice: %s, %s", show(a), show(again), one.Text())
		}
		if other, minus := row.Primitive(row.Neg(a)); !same(other, l) || minus.Cmp(g.Neg()) != 0 {
			t.Errorf("Primitive of %s, with the other signs: %s, %s", show(a), show(other), minus.Text())
		}
	}
}

// P4.6
func TestScaledAndBack(t *testing.T) {
	for _, a := range rows(60) {
		for _, c := range numbers(6) {
			scaled := row.Scale(a, c)
			if got := row.Content(scaled); got.Cmp(row.Content(a).Mul(c.Abs())) != 0 {
				t.Errorf("Content of %s times %s: %s", show(a), c.Text(), got.Text())
			}
			if back, e := row.Over(scaled, c); c.Sign() != 0 && (!same(back, a) || e != api.OK) {
				t.Errorf("%s times %s, and back: %s, %v", show(a), c.Text(), show(back), e)
			}
		}
	}
}

// P4.4: of three rows the order is one.
func TestOrderIsOne(t *testing.T) {
	all := append(few(1), few(2)...)
	for _, a := range all {
		for _, b := range all {
			for _, c := range all {
				if row.Cmp(a, b) <= 0 && row.Cmp(b, c) <= 0 && row.Cmp(a, c) > 0 {
					t.Errorf("%s, %s, %s", show(a), show(b), show(c))
				}
			}
		}
	}
}

// answered are all rows that the calls answer of a and b, which are as long as each other; c divides a.
func answered(a, b []integer.Int, c integer.Int) [][]integer.Int {
	sum, _ := row.Add(a, b)
	less, _ := row.Sub(a, b)
	over, _ := row.Over(a, c)
	one, _ := row.Over(a, of(1))
	both, _ := row.Combine(c, a, c, b)
	first, _ := row.Combine(of(1), a, of(0), b)
	primitive, _ := row.Primitive(a)
	read, _ := row.Read(row.Text(a))
	zero, _ := row.Zero(len(a))
	unit, _ := row.Unit(len(a)+1, len(a))
	wrong, _ := row.Over(a, c.Add(of(1)))
	noughts, _ := row.Primitive(zero)
	small := make([]int64, len(a), len(a)+3)
	return [][]integer.Int{sum, less, row.Neg(a), row.Scale(a, c), row.Scale(a, of(1)), over, one, both, first, primitive, read, zero, unit, wrong, noughts, row.Of(small...)}
}

// R3: what is handed in stays as it is, the room behind its end too, whatever is done with what is answered.
func TestRowsStay(t *testing.T) {
	m := maker(77)
	for n := range 6 {
		room := func() []integer.Int { return m.row(n + 3) }
		a, b := room(), room()
		if n > 0 {
			a[0] = of(1) // so that its content is 1, and nothing is to be done for it
		}
		wasA, wasB := show(a), show(b)
		row.Dot(a[:n], b[:n])
		row.Content(a[:n])
		row.Widest(a[:n])
		row.Cmp(a[:n], b[:n])
		row.Same(a[:n], b[:n])
		row.IsZero(a[:n])
		for _, l := range answered(a[:n], b[:n], of(1)) {
			l = l[:cap(l)]
			for i := range l {
				l[i] = of(-99)
			}
		}
		if show(a) != wasA || show(b) != wasB {
			t.Errorf("%s, %s: now %s, %s", wasA, wasB, show(a), show(b))
		}
	}
}

// R3: the rows that are answered are new, hang no more on what was handed in, and have nothing behind their ends.
func TestRowsAreNew(t *testing.T) {
	m := maker(78)
	for n := range 6 {
		a, b := row.Scale(m.row(n), of(6)), m.row(n)
		first, second := answered(a, b, of(6)), answered(a, b, of(6))
		var were []string
		for _, l := range second {
			were = append(were, show(l))
			if !row.IsZero(l[len(l):cap(l)]) {
				t.Errorf("behind the end of %s: %s", show(l), show(l[len(l):cap(l)]))
			}
		}
		for i := range a {
			a[i], b[i] = of(5), of(7)
		}
		for _, l := range first {
			l = l[:cap(l)]
			for i := range l {
				l[i] = of(-99)
			}
		}
		for i, l := range second {
			if show(l) != were[i] {
				t.Errorf("%s: now %s", were[i], show(l))
			}
		}
	}
}

// R3: a row of small numbers hangs no more on the list that it is made of.
func TestOfIsNew(t *testing.T) {
	l := []int64{1, 2, 3, 4, 5}
	a := row.Of(l[:3]...)
	l[1] = 9
	for i := range a[:cap(a)] {
		a[:cap(a)][i] = of(7)
	}
	if b := row.Of(l...); !is(b, 1, 9, 3, 4, 5) || !is(a, 7, 7, 7) {
		t.Errorf("%s, %s", show(a), show(b))
	}
}

// R5: rows may be asked by several goroutines at one time.
func TestAtOneTime(t *testing.T) {
	a, b := row.Of(4, -6, 1<<40), row.Of(0, 10, -2)
	answers := make(chan string)
	for range 8 {
		go func() {
			both, _ := row.Combine(of(3), a, of(-1), b)
			l, g := row.Primitive(b)
			x, _ := row.Dot(a, b)
			answers <- row.Text(both) + row.Text(l) + g.Text() + " " + x.Text() + " " + row.Widest(a).Text()
		}()
	}
	for range 8 {
		if got := <-answers; got != "[12 -28 3298534883330][0 5 -1]2 -2199023255612 1099511627776" {
			t.Error(got)
		}
	}
}
