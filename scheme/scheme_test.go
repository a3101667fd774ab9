package scheme_test

import (
	"math"
	"slices"
	"testing"

	"swage/api"
	"swage/integer"
	"swage/matrix"
	"swage/scheme"
)

// judged asks that New says of these what is wanted: the scheme, or an error and nothing beside it.
func judged(t *testing.T, k1, k2 int, l []api.Point, want api.Errno) {
	t.Helper()
	s, e := scheme.New(k1, k2, l)
	if e != want || (s != nil) != (want == api.OK) {
		t.Errorf("New(%d, %d, %d points, %.10v): %v, not %v", k1, k2, len(l), l[:min(len(l), 20)], e, want)
		return
	}
	if s != nil {
		holds(t, s, k1, k2, l)
	}
}

// P7.1: the chapter's examples, and others of their kind.
func TestNew(t *testing.T) {
	for _, x := range []struct {
		k1, k2 int
		l      []api.Point
		want   api.Errno
	}{
		{2, 2, pts(0, 1, 1, 1, 1, 0), api.OK}, {1, 1, pts(3, -6), api.OK}, {1, 1, pts(1, 0), api.OK}, {1, 1, pts(-16, -16), api.OK}, {1, 2, pts(16, -16, 16, 16), api.OK}, {2, 1, pts(0, -16, -16, 0), api.OK}, {2, 2, pts(1, 2, 2, 1, -1, 2), api.OK},
		{2, 2, pts(0, 1, 1, 1), api.ErrBadPoints}, {2, 2, pts(0, 1, 1, 1, 2, 2), api.ErrBadPoints}, {2, 2, pts(0, 1, 1, 1, 0, 0), api.ErrBadPoints}, {2, 2, nil, api.ErrBadPoints}, {2, 2, []api.Point{}, api.ErrBadPoints}, {1, 1, nil, api.ErrBadPoints}, {1, 1, pts(0, 0), api.ErrBadPoints}, {2, 1, pts(0, 0, 1, 1), api.ErrBadPoints},
		{2, 1, pts(1, 2, -2, -4), api.ErrBadPoints}, {2, 1, pts(1, 0, -16, 0), api.ErrBadPoints}, {1, 2, pts(0, 1, 0, -7), api.ErrBadPoints}, {3, 2, pts(2, 3, 0, 1, 1, 0, -4, -6), api.ErrBadPoints}, {2, 2, pts(0, 1, 5, 5, 1, 1), api.ErrBadPoints}, {1, 2, pts(3, 4, 3, 4), api.ErrBadPoints},
		{0, 2, pts(0, 1), api.ErrLimit}, {2, 0, pts(0, 1), api.ErrLimit}, {9, 1, whole(9), api.ErrLimit}, {1, 9, whole(9), api.ErrLimit}, {1, 9, nil, api.ErrLimit}, {-1, 3, pts(0, 1), api.ErrLimit}, {2, 2, pts(0, 1, 1, 1, 17, 1), api.ErrLimit}, {2, 2, pts(0, 1, 1, 1, 1, -17), api.ErrLimit}, {1, 1, pts(17, 17), api.ErrLimit}, {1, 1, pts(-17, 0), api.ErrLimit}, {1, 1, pts(math.MinInt, 1), api.ErrLimit}, {1, 1, pts(1, math.MinInt), api.ErrLimit}, {1, 1, pts(math.MaxInt, math.MaxInt), api.ErrLimit},
	} {
		judged(t, x.k1, x.k2, x.l, x.want)
	}
}

// P7.1, R1: all counts at which something turns, with as many points as they ask, one fewer, one more, none and many.
func TestNewCounts(t *testing.T) {
	for _, k1 := range edges() {
		for _, k2 := range edges() {
			for n := range 18 {
				judged(t, k1, k2, whole(n), verdict(k1, k2, whole(n)))
			}
		}
	}
	for k1 := 1; k1 <= parts; k1++ {
		for k2 := 1; k2 <= parts; k2++ {
			n := k1 + k2 - 1
			judged(t, k1, k2, whole(n), api.OK)
			judged(t, k1, k2, whole(n-1), api.ErrBadPoints)
			judged(t, k1, k2, whole(n+1), api.ErrBadPoints)
			judged(t, k1, k2, nil, api.ErrBadPoints)
		}
	}
}

// P7.1: every list of up to three points out of a few, for all counts that three points are for, and some others.
func TestNewOfFew(t *testing.T) {
	few := pts(0, 0, 0, 1, 0, -5, 1, 0, -16, 0, 1, 1, -3, -3, -1, 1, 1, 2, 8, 16, -4, 6, 2, -3, 16, 15, 17, 17, 17, 0, 0, 17, math.MinInt, math.MinInt)
	lists := [][]api.Point{nil}
	for begin := 0; begin < len(lists) && len(lists[begin]) < 3; begin++ {
		for _, p := range few {
			lists = append(lists, append(slices.Clone(lists[begin]), p))
		}
	}
	for _, l := range lists {
		for _, k := range [][2]int{{1, 1}, {1, 2}, {2, 1}, {2, 2}, {1, 3}, {3, 1}, {8, 8}, {0, 4}, {4, 0}} {
			judged(t, k[0], k[1], l, verdict(k[0], k[1], l))
		}
	}
}

// P7.1, P2: each point with coordinates around the limit, alone, and behind two others.
func TestNewOfEveryPoint(t *testing.T) {
	for a := -most - 2; a <= most+2; a++ {
		for b := -most - 2; b <= most+2; b++ {
			for _, l := range [][]api.Point{pts(a, b), pts(0, 1, 1, 0, a, b), pts(a, b, 0, 1, 1, 0), pts(2, 4, a, b, -3, 1)} {
				k1 := (len(l) + 1) / 2
				judged(t, k1, len(l)+1-k1, l, verdict(k1, len(l)+1-k1, l))
			}
		}
	}
}

// P7.1: two points that are one, at each two places of the longest list, and a point that is none at each.
func TestNewTwinsAnywhere(t *testing.T) {
	n := 2*parts - 1
	for j := range n {
		l := whole(n)
		l[j] = pt(0, 0)
		judged(t, parts, parts, l, api.ErrBadPoints)
		for i := range n {
			if i == j {
				continue
			}
			l := whole(n)
			l[j] = pt(-l[i].A, -1)
			judged(t, parts, parts, l, api.ErrBadPoints)
		}
	}
}

// P7.1: each point is looked at, however many there are, whatever is bad ahead of it: which of both errors is told.
func TestNewLimitAheadOfBad(t *testing.T) {
	for _, far := range pts(17, 1, 1, 17, -17, 1, 1, -17, 17, 17, 17, 0, 0, -17, math.MinInt, 0, 0, math.MinInt, math.MaxInt, 1) {
		for _, l := range [][]api.Point{nil, pts(0, 1), pts(0, 0), pts(0, 0, 0, 0), pts(0, 1, 0, 1), whole(3), whole(16), append(whole(17), whole(17)...)} {
			for at := range len(l) + 1 {
				judged(t, 2, 2, slices.Insert(slices.Clone(l), at, far), api.ErrLimit)
				judged(t, 1, 1, slices.Insert(slices.Clone(l), at, far), api.ErrLimit)
				judged(t, 9, 0, slices.Insert(slices.Clone(l), at, far), api.ErrLimit)
			}
		}
	}
	for _, l := range [][]api.Point{nil, pts(0, 0), pts(1, 1, 1, 1), whole(9), whole(40)} {
		judged(t, 9, 1, l, api.ErrLimit)
		judged(t, 1, 9, l, api.ErrLimit)
		judged(t, 0, 1, l, api.ErrLimit)
		judged(t, 1, 0, l, api.ErrLimit)
	}
}

// P7.1, R1: a long list.
func TestNewOfALongList(t *testing.T) {
	l := slices.Repeat(pts(0, 1, 1, 1, 2, 2, 0, 0), 1<<18)
	judged(t, 2, 2, l, api.ErrBadPoints)
	l[len(l)-1] = pt(17, 1)
	judged(t, 2, 2, l, api.ErrLimit)
}

// P7.2
func TestTold(t *testing.T) {
	for _, x := range some(t, 3, parts) {
		holds(t, x.s, x.k1, x.k2, x.l)
	}
}

// alike asks whether both are the Same, the other way round too.
func alike(t *testing.T, a, b *scheme.Scheme, want bool) {
	t.Helper()
	if a.Same(b) != want || b.Same(a) != want {
		t.Errorf("%s, %s: %t, %t", a.Text(), b.Text(), a.Same(b), b.Same(a))
	}
}

// P7.2: other counts with as many points, other coordinates of one point, another order.
func TestSame(t *testing.T) {
	s := made(t, 3, 2, pts(0, 1, 1, 1, -1, 1, 1, 2))
	alike(t, s, s, true)
	alike(t, s, made(t, 3, 2, pts(0, 1, 1, 1, -1, 1, 1, 2)), true)
	for _, k := range [][2]int{{2, 3}, {1, 4}, {4, 1}} {
		alike(t, s, made(t, k[0], k[1], s.Points()), false)
	}
	for _, l := range [][]api.Point{pts(0, 1, 1, 1, -1, 1, 2, 4), pts(0, -1, 1, 1, -1, 1, 1, 2), pts(0, 1, -1, -1, -1, 1, 1, 2), pts(1, 1, 0, 1, -1, 1, 1, 2), pts(0, 1, 1, 1, -1, 1, 1, 0), pts(0, 1, 1, 1, -1, 1, -1, -2)} {
		alike(t, s, made(t, 3, 2, l), false)
	}
	alike(t, s, made(t, 3, 1, pts(0, 1, 1, 1, -1, 1)), false)
	alike(t, s, made(t, 3, 3, pts(0, 1, 1, 1, -1, 1, 1, 2, 1, 0)), false)
	alike(t, s, nil, false)
	all := some(t, 2, 3)
	for i, a := range all {
		for j, b := range all {
			alike(t, a.s, b.s, i == j || a.k1 == b.k1 && a.k2 == b.k2 && slices.Equal(a.l, b.l))
		}
	}
}

// R4: a nil scheme, asked by every call.
func TestNil(t *testing.T) {
	var s *scheme.Scheme
	k1, k2 := s.Parts()
	if k1 != 0 || k2 != 0 || s.Size() != 0 || len(s.Points()) != 0 || s.Text() != "" {
		t.Errorf("told: %d, %d, %d, %v, %q", k1, k2, s.Size(), s.Points(), s.Text())
	}
	if s.Same(nil) || s.Same(s) || s.Same(made(t, 1, 1, pts(1, 1))) {
		t.Error("the same")
	}
	w, d := s.Inverse()
	for i, m := range []matrix.Matrix{s.Left(), s.Right(), s.Full(), w} {
		if m.Rows() != 0 || m.Cols() != 0 || !m.Same(matrix.Matrix{}) {
			t.Errorf("the matrix %d: %s", i, show(m))
		}
	}
	for _, x := range []integer.Int{s.Det(), d} {
		if x.Sign() != 0 {
			t.Errorf("a number: %s", x.Text())
		}
	}
}

// R3: a list that is handed in stays as it is, the room behind its end too, and may be written into later.
func TestListStays(t *testing.T) {
	for _, x := range some(t, 1, parts) {
		list := append(slices.Clone(x.l), pt(7, 7), pt(-99, 99))
		was := slices.Clone(list)
		s := made(t, x.k1, x.k2, list[:len(x.l)])
		scheme.New(x.k1, x.k2, list[:len(x.l)+1])
		scheme.New(x.k1, x.k2, list)
		answers(s)
		scrawl(s.Points())
		if !slices.Equal(list, was) {
			t.Errorf("%v: now %v", was, list)
		}
		before := answers(s)
		scrawl(list)
		if now := answers(s); now != before {
			t.Errorf("%s: now %s", before, now)
		}
		holds(t, s, x.k1, x.k2, x.l)
	}
}

// R3: what is answered is new each time, with nothing behind its end.
func TestAnswersAreNew(t *testing.T) {
	for _, x := range some(t, 1, parts) {
		before := answers(x.s)
		first, second := x.s.Points(), x.s.Points()
		for _, p := range first[len(first):cap(first)] {
			if p != pt(0, 0) {
				t.Errorf("behind the end of %v: %v", first, p)
			}
		}
		scrawl(first)
		if !slices.Equal(second, x.l) {
			t.Errorf("%v: now %v", x.l, second)
		}
		w, _ := x.s.Inverse()
		for _, m := range []matrix.Matrix{x.s.Left(), x.s.Right(), x.s.Full(), w} {
			was := show(m)
			for i := range m.Rows() {
				l, _ := m.Row(i)
				for j := range l[:cap(l)] {
					l[:cap(l)][j] = integer.Of(-99)
				}
			}
			if show(m) != was {
				t.Errorf("%s: now %s", was, show(m))
			}
		}
		if now := answers(x.s); now != before {
			t.Errorf("%s: now %s", before, now)
		}
		holds(t, x.s, x.k1, x.k2, x.l)
	}
}

// scrawl writes into all of a list, the room behind its end too.
func scrawl(l []api.Point) {
	l = l[:cap(l)]
	for i := range l {
		l[i] = pt(-9, -9)
	}
}

// answers are the answers of all calls.
func answers(s *scheme.Scheme) string {
	w, d := s.Inverse()
	return s.Text() + show(s.Left()) + show(s.Right()) + show(s.Full()) + value(s.Det()).String() + show(w) + value(d).String()
}

// R5: a scheme may be asked by several goroutines at one time.
func TestAtOneTime(t *testing.T) {
	s := made(t, 4, 3, pts(0, 1, 1, 1, -2, 2, 2, 1, 1, -2, 1, 0))
	want, got := answers(s), make(chan string)
	for range 8 {
		go func() { got <- answers(s) }()
	}
	for range 8 {
		if a := <-got; a != want {
			t.Error(a)
		}
	}
}
