package matrix_test

import (
	"testing"

	"swage/api"
	"swage/integer"
	"swage/matrix"
)

// plus and by are Plus and Times of matrices that fit each other.
func plus(t *testing.T, m, o matrix.Matrix) matrix.Matrix {
	t.Helper()
	sum, e := m.Plus(o)
	if e != api.OK {
		t.Fatalf("%s plus %s: %v", show(m), show(o), e)
	}
	return sum
}

func by(t *testing.T, m, o matrix.Matrix) matrix.Matrix {
	t.Helper()
	product, e := m.Times(o)
	if e != api.OK {
		t.Fatalf("%s times %s: %v", show(m), show(o), e)
	}
	return product
}

func applied(t *testing.T, m matrix.Matrix, v []integer.Int) []integer.Int {
	t.Helper()
	l, e := m.Apply(v)
	if e != api.OK {
		t.Fatalf("%s, applied to %d numbers: %v", show(m), len(v), e)
	}
	return l
}

// alike asks that both are the same matrix.
func alike(t *testing.T, what string, m, o matrix.Matrix) {
	t.Helper()
	if show(m) != show(o) || !m.Same(o) {
		t.Errorf("%s: %s is not %s", what, show(m), show(o))
	}
}

// det is the determinant of what is square.
func det(t *testing.T, m matrix.Matrix) integer.Int {
	t.Helper()
	d, e := m.Det()
	if e != api.OK {
		t.Fatalf("Det of %s: %v", show(m), e)
	}
	return d
}

// P5.7
func TestReckonLaws(t *testing.T) {
	source := maker(12)
	for _, x := range [][4]int{{1, 1, 1, 1}, {2, 2, 2, 2}, {1, 3, 2, 4}, {3, 1, 4, 1}, {4, 3, 1, 2}, {3, 3, 3, 3}, {1, 16, 1, 16}, {16, 1, 16, 1}} {
		for k := range 8 {
			a, b, c := each(t, 8, x[0], x[1])[k], each(t, 8, x[1], x[2])[k], each(t, 8, x[2], x[3])[k]
			other, third := each(t, 16, x[1], x[2])[8+k], each(t, 24, x[1], x[2])[16+k]
			alike(t, "Times", by(t, by(t, a, b), c), by(t, a, by(t, b, c)))
			alike(t, "Plus", plus(t, plus(t, b, other), third), plus(t, b, plus(t, other, third)))
			alike(t, "Times over Plus", by(t, a, plus(t, b, other)), plus(t, by(t, a, b), by(t, a, other)))
			alike(t, "Times over Plus", by(t, plus(t, b, other), c), plus(t, by(t, b, c), by(t, other, c)))
			alike(t, "Turn", by(t, a, b).Turn(), by(t, b.Turn(), a.Turn()))
			alike(t, "Turn twice", a.Turn().Turn(), a)
			v := source.lists(1, x[2], k%3)[0]
			if !same(values(applied(t, by(t, a, b), v)), values(applied(t, a, applied(t, b, v)))) {
				t.Errorf("%s times %s, applied", show(a), show(b))
			}
		}
	}
}

// P5.8
func TestDetLaws(t *testing.T) {
	for n := 1; n <= 6; n++ {
		all := each(t, 8, n, n)
		for _, m := range all {
			d := det(t, m)
			if det(t, m.Turn()).Cmp(d) != 0 || (d.Sign() == 0) != (m.Rank() < n) {
				t.Errorf("Det of %s: %s, Rank %d", show(m), d.Text(), m.Rank())
			}
			for _, o := range all {
				if det(t, by(t, m, o)).Cmp(d.Mul(det(t, o))) != 0 {
					t.Errorf("Det of %s times %s", show(m), show(o))
				}
			}
			swapped(t, m)
		}
	}
	for _, m := range some(t, 12) {
		if m.Rank() != m.Turn().Rank() || m.Rank() > min(m.Rows(), m.Cols()) {
			t.Errorf("Rank of %s: %d, turned %d", show(m), m.Rank(), m.Turn().Rank())
		}
	}
}

// swapped asks that two rows changed about turn the determinant's sign.
func swapped(t *testing.T, m matrix.Matrix) {
	t.Helper()
	lists := make([][]integer.Int, m.Rows())
	for i := range lists {
		lists[i], _ = m.Row(i)
	}
	want := det(t, m).Neg()
	for i := range lists {
		for k := range i {
			lists[i], lists[k] = lists[k], lists[i]
			if got := det(t, made(t, lists...)); got.Cmp(want) != 0 {
				t.Errorf("%s with the rows %d and %d changed about: %s", show(m), i, k, got.Text())
			}
			lists[i], lists[k] = lists[k], lists[i]
		}
	}
}

// P5.9
func TestInverseLaws(t *testing.T) {
	for _, m := range append(squares(t, 24, 5), squares(t, 3, 16)...) {
		identity, _ := matrix.Identity(m.Rows())
		d := det(t, m)
		a, e := m.Adjugate()
		if e != api.OK {
			t.Fatalf("Adjugate of %s: %v", show(m), e)
		}
		alike(t, "the adjugate", by(t, m, a), identity.Scale(d))
		alike(t, "the adjugate, ahead", by(t, a, m), identity.Scale(d))
		w, c, e := m.Inverse()
		if (e == api.ErrFlat) != (d.Sign() == 0) {
			t.Errorf("Inverse of %s: %v", show(m), e)
		}
		if e != api.OK {
			continue
		}
		alike(t, "the inverse", by(t, m, w), identity.Scale(c))
		alike(t, "the inverse, ahead", by(t, w, m), identity.Scale(c))
		if _, rest, _ := d.DivMod(c); rest.Sign() != 0 {
			t.Errorf("Inverse of %s: %s does not divide %s", show(m), c.Text(), d.Text())
		}
	}
}

// P5.10
func TestTextAndBack(t *testing.T) {
	for _, m := range some(t, 12) {
		got, spot := matrix.Read(m.Text())
		if alike(t, "Read", got, m); spot != (api.Spot{}) {
			t.Errorf("%s: %v", show(m), spot)
		}
	}
	var none matrix.Matrix
	refused(t, none.Text(), api.ErrText, 1)
}

// scrawl writes into all of a list, the room behind its end too.
func scrawl(l []integer.Int) {
	l = l[:cap(l)]
	for i := range l {
		l[i] = of(-99)
	}
}

// derived are all matrices that the calls answer of m, which is square.
func derived(m matrix.Matrix) []matrix.Matrix {
	sum, _ := m.Plus(m)
	product, _ := m.Times(m)
	adjugate, _ := m.Adjugate()
	inverse, _, _ := m.Inverse()
	read, _ := matrix.Read(m.Text())
	return []matrix.Matrix{m, sum, product, m.Scale(of(1)), m.Turn(), m.Turn().Turn(), adjugate, inverse, read}
}

// R3: a matrix hangs no more on the lists that it is made of, nor on those that it answers, nor on what is made of it.
func TestMatricesStay(t *testing.T) {
	source := maker(77)
	for n := 1; n <= 5; n++ {
		lists := source.lists(n+2, n+3, 2)
		rows := make([][]integer.Int, n, n+2)
		for i := range rows {
			rows[i] = lists[i][:n]
		}
		m, e := matrix.New(rows...)
		if e != api.OK {
			t.Fatal(e)
		}
		all := derived(m)
		var were []string
		for _, o := range all {
			were = append(were, show(o))
		}
		for _, l := range lists {
			scrawl(l)
		}
		clear(rows[:cap(rows)])
		for _, o := range all {
			for i := range o.Rows() {
				l, _ := o.Row(i)
				scrawl(l)
			}
			v, _ := o.Apply(make([]integer.Int, o.Cols()))
			scrawl(v)
		}
		for k, o := range all {
			if show(o) != were[k] {
				t.Errorf("%s: now %s", were[k], show(o))
			}
		}
	}
}

// R3: what is handed in stays as it is, the room behind its end too.
func TestListsStay(t *testing.T) {
	source := maker(78)
	for n := 1; n <= 5; n++ {
		lists, v := source.lists(n, n+3, 2), source.lists(1, n+3, 2)[0]
		rows := make([][]integer.Int, n, n+2)
		for i := range rows {
			rows[i] = lists[i][:n]
		}
		was := show(made(t, lists...)) + show(made(t, v))
		m := made(t, rows...)
		first, _ := m.Apply(v[:n])
		m.Solve(v[:n])
		derived(m)
		scrawl(first)
		if now := show(made(t, lists...)) + show(made(t, v)); now != was || rows[:n+1][n] != nil {
			t.Errorf("%s: now %s", was, now)
		}
	}
}

// R3: the lists that are answered are new each time, with nothing behind their ends.
func TestListsAreNew(t *testing.T) {
	for _, m := range squares(t, 6, 5) {
		v := list(make([]int64, m.Rows())...)
		v[0] = of(6)
		for range 2 {
			l, _ := m.Row(0)
			a, _ := m.Apply(v)
			s, _ := m.Solve(v)
			for _, x := range append(l[len(l):cap(l)], a[len(a):cap(a)]...) {
				if x.Sign() != 0 {
					t.Errorf("%s: behind the end: %s", show(m), x.Text())
				}
			}
			solved(t, m, v)
			if !same(values(l), told(m)[0]) {
				t.Errorf("Row of %s: %v", show(m), values(l))
			}
			scrawl(l)
			scrawl(a)
			clear(s[:cap(s)])
		}
	}
}

// R4: a copy is as good, and the zero value is none.
func TestCopies(t *testing.T) {
	m := small(t, []int64{1, 2}, []int64{3, 4})
	o := m
	m = matrix.Matrix{}
	isNone(t, "the zero value", m)
	if show(o) != "[[1 2] [3 4]]" || det(t, o).Text() != "-2" || m.Text() != "[]" {
		t.Errorf("a copy: %s", show(o))
	}
}

// R5: a matrix may be asked by several goroutines at one time.
func TestAtOneTime(t *testing.T) {
	m := small(t, []int64{0, 2, 1}, []int64{3, 0, 5}, []int64{1 << 40, -1, 4})
	answers := make(chan string)
	ask := func() string {
		w, d, _ := m.Inverse()
		a, _ := m.Adjugate()
		s, _ := m.Solve(list(1, 2, 3))
		return m.Text() + w.Text() + d.Text() + a.Text() + s[0].Text() + det(t, m).Text() + m.Turn().Text()
	}
	for range 8 {
		go func() { answers <- ask() }()
	}
	want := ask()
	for range 8 {
		if got := <-answers; got != want {
			t.Error(got)
		}
	}
}
