package scheme_test

import (
	"math"
	"math/big"
	"slices"
	"strings"
	"testing"

	"swage/api"
	"swage/integer"
	"swage/matrix"
	"swage/scheme"
)

// most is the greatest coordinate of a point that is in, and parts the greatest split count.
const (
	most  = 16
	parts = 8
)

// pt is a point by its coordinates.
func pt(a, b int) api.Point { return api.Point{A: a, B: b} }

// pts are points by their coordinates, two by two.
func pts(l ...int) []api.Point {
	out := []api.Point{}
	for i := 0; i+1 < len(l); i += 2 {
		out = append(out, pt(l[i], l[i+1]))
	}
	return out
}

// whole are the points 0, 1, 2, .., n of them; they are not in from 17 on.
func whole(n int) []api.Point {
	l := make([]api.Point, n)
	for i := range l {
		l[i] = pt(i, 1)
	}
	return l
}

// edges are the counts at which something turns, the least and the greatest int among them.
func edges() []int {
	return []int{math.MinInt, math.MinInt + 1, -1 << 32, -9, -8, -1, 0, 1, 2, 7, 8, 9, 10, 1<<32 + 1, 1<<32 + 2, math.MaxInt - 1, math.MaxInt}
}

// normal is what makes two points one, by fractions of another make; of none it is empty.
func normal(p api.Point) string {
	switch {
	case p.A == 0 && p.B == 0:
		return ""
	case p.B == 0:
		return "inf"
	}
	return big.NewRat(1, 1).SetFrac(big.NewInt(int64(p.A)), big.NewInt(int64(p.B))).String()
}

// allowed tells whether a coordinate is one of a point that is in.
func allowed(n int) bool { return n >= -most && n <= most }

// verdict is what the chapter's words say of split counts and points.
func verdict(k1, k2 int, l []api.Point) api.Errno {
	if k1 < 1 || k2 < 1 || k1 > parts || k2 > parts {
		return api.ErrLimit
	}
	for _, p := range l {
		if !allowed(p.A) || !allowed(p.B) {
			return api.ErrLimit
		}
	}
	if len(l)-k1-k2 != -1 {
		return api.ErrBadPoints
	}
	for j, q := range l {
		for _, p := range l[:j] {
			if normal(p) == normal(q) {
				return api.ErrBadPoints
			}
		}
		if normal(q) == "" {
			return api.ErrBadPoints
		}
	}
	return api.OK
}

// made is the scheme of these, which may be one.
func made(t *testing.T, k1, k2 int, l []api.Point) *scheme.Scheme {
	t.Helper()
	s, e := scheme.New(k1, k2, l)
	if e != api.OK || s == nil {
		t.Fatalf("New(%d, %d, %v): %v", k1, k2, l, e)
	}
	return s
}

// holds asks that a scheme tells these counts and points, by each call that tells them.
func holds(t *testing.T, s *scheme.Scheme, k1, k2 int, l []api.Point) {
	t.Helper()
	a, b := s.Parts()
	if a != k1 || b != k2 || s.Size() != len(l) || !slices.Equal(s.Points(), l) {
		t.Errorf("a scheme of %d, %d and %v tells %d, %d, %d, %v", k1, k2, l, a, b, s.Size(), s.Points())
	}
}

// maker makes the same numbers in every run: a shift register, so that a test that fails does so again.
type maker uint64

func (m *maker) next() uint32 {
	*m ^= *m << 13
	*m ^= *m >> 7
	*m ^= *m << 17
	return uint32(*m >> 16)
}

// below is a number from 0 to below n.
func (m *maker) below(n int) int { return int(m.next() % uint32(n)) }

// number has up to n limbs; of none it is a small one.
func (m *maker) number(n int) integer.Int {
	if n == 0 {
		return integer.Of(int64(m.below(9)) - 4)
	}
	limbs := make([]uint32, n)
	for i := range limbs {
		limbs[i] = m.next()
	}
	return integer.Make(m.next()%2 == 0, limbs)
}

// numbers are n numbers of up to so many limbs.
func (m *maker) numbers(n, limbs int) []integer.Int {
	l := make([]integer.Int, n)
	for i := range l {
		l[i] = m.number(limbs)
	}
	return l
}

// points are n points with coordinates of an amount up to top, no two of them one, infinity and such as are not their own norms among them.
func (m *maker) points(n, top int) []api.Point {
	var l []api.Point
	seen := map[string]bool{"": true}
	for len(l) < n {
		p := pt(m.below(2*top+1)-top, m.below(2*top+1)-top)
		if m.below(8) == 0 {
			p.B = 0
		}
		if name := normal(p); !seen[name] {
			seen[name] = true
			l = append(l, p)
		}
	}
	return l
}

// sample is a scheme, and what it was made of.
type sample struct {
	s      *scheme.Scheme
	k1, k2 int
	l      []api.Point
}

// some are schemes of all split counts up to top, n of each.
func some(t *testing.T, n, top int) []sample {
	t.Helper()
	source := maker(2463534242)
	var all []sample
	for k1 := 1; k1 <= top; k1++ {
		for k2 := 1; k2 <= top; k2++ {
			for i := range n {
				l := source.points(k1+k2-1, []int{most, 4, 9}[i%3])
				all = append(all, sample{made(t, k1, k2, l), k1, k2, l})
			}
		}
	}
	return all
}

// value is what an Int says by its limbs.
func value(x integer.Int) *big.Int {
	neg, limbs := x.Limbs()
	v := new(big.Int)
	for i := len(limbs) - 1; i >= 0; i-- {
		v.Lsh(v, 32)
		v.Or(v, big.NewInt(int64(limbs[i])))
	}
	if neg {
		v.Neg(v)
	}
	return v
}

// values are what the numbers of a list say.
func values(l []integer.Int) []*big.Int {
	out := make([]*big.Int, len(l))
	for i, x := range l {
		out[i] = value(x)
	}
	return out
}

// grid is rows of numbers, of another make.
type grid [][]*big.Int

// told is what stands in a matrix, place by place.
func told(m matrix.Matrix) grid {
	g := make(grid, m.Rows())
	for i := range g {
		l, _ := m.Row(i)
		g[i] = values(l)
	}
	return g
}

// text is the rows' numbers, in brackets.
func (g grid) text() string {
	lines := make([]string, len(g))
	for i, l := range g {
		words := make([]string, len(l))
		for j, v := range l {
			words[j] = v.String()
		}
		lines[i] = "[" + strings.Join(words, " ") + "]"
	}
	return "[" + strings.Join(lines, " ") + "]"
}

// show is a matrix's text, by numbers of another make.
func show(m matrix.Matrix) string { return told(m).text() }

// evaluated has a row for each point: A to the j times B to the k-1-j, j from 0 to below k.
func evaluated(l []api.Point, k int) grid {
	g := make(grid, len(l))
	for i, p := range l {
		for j := range k {
			a := new(big.Int).Exp(big.NewInt(int64(p.A)), big.NewInt(int64(j)), nil)
			b := new(big.Int).Exp(big.NewInt(int64(p.B)), big.NewInt(int64(k-1-j)), nil)
			g[i] = append(g[i], a.Mul(a, b))
		}
	}
	return g
}

// times is the product of both.
func (g grid) times(o grid) grid {
	out := make(grid, len(g))
	for i := range g {
		for j := range o[0] {
			sum := new(big.Int)
			for k, x := range g[i] {
				sum.Add(sum, new(big.Int).Mul(x, o[k][j]))
			}
			out[i] = append(out[i], sum)
		}
	}
	return out
}

// diagonal has n rows and columns, d where both are the same, else 0.
func diagonal(n int, d *big.Int) grid {
	g := make(grid, n)
	for i := range g {
		for j := range n {
			v := new(big.Int)
			if i == j {
				v.Set(d)
			}
			g[i] = append(g[i], v)
		}
	}
	return g
}

// det is the determinant of as many rows as columns, by fractions.
func (g grid) det() *big.Int {
	l := make([][]*big.Rat, len(g))
	for i := range g {
		for _, v := range g[i] {
			l[i] = append(l[i], new(big.Rat).SetInt(v))
		}
	}
	all := big.NewRat(1, 1)
	for k := range l {
		i := k
		for i < len(l) && l[i][k].Sign() == 0 {
			i++
		}
		if i == len(l) {
			return new(big.Int)
		}
		if i != k {
			l[i], l[k] = l[k], l[i]
			all.Neg(all)
		}
		all.Mul(all, l[k][k])
		for i := k + 1; i < len(l); i++ {
			by := new(big.Rat).Quo(l[i][k], l[k][k])
			for c := range l[i] {
				l[i][c] = new(big.Rat).Sub(l[i][c], new(big.Rat).Mul(by, l[k][c]))
			}
		}
	}
	return all.Num()
}

// spread is the product of each two points' A2 B1 - A1 B2, the first one ahead of the second in the list.
func spread(l []api.Point) *big.Int {
	all := big.NewInt(1)
	for i := range l {
		for j := i + 1; j < len(l); j++ {
			all.Mul(all, big.NewInt(int64(l[j].A*l[i].B-l[i].A*l[j].B)))
		}
	}
	return all
}
