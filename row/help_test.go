package row_test

import (
	"math"
	"math/big"
	"slices"

	"swage/integer"
)

// top is the greatest limb.
const top = 1<<32 - 1

// of is a small number.
func of(n int64) integer.Int { return integer.Of(n) }

// maker makes the same numbers in every run: a shift register, so that a test that fails does so again.
type maker uint64

func (m *maker) next() uint32 {
	*m ^= *m << 13
	*m ^= *m >> 7
	*m ^= *m << 17
	return uint32(*m >> 16)
}

// number has n limbs or fewer.
func (m *maker) number(n int) integer.Int {
	limbs := make([]uint32, n)
	for i := range limbs {
		limbs[i] = m.next()
	}
	return integer.Make(m.next()%2 == 0, limbs)
}

// row has n numbers of up to 5 limbs, noughts among them, and something in common more often than not.
func (m *maker) row(n int) []integer.Int {
	common := m.number(int(m.next() % 3)).Mul(of(12)).Add(of(1))
	l := make([]integer.Int, n)
	for i := range l {
		l[i] = m.number(int(m.next() % 4)).Mul(common)
	}
	return l
}

// numbers are those at which signs, limbs and int64s turn, 0 in all its forms among them, and n more, of up to 5 limbs.
func numbers(n int) []integer.Int {
	all := []integer.Int{{}, of(0), integer.Make(true, nil), integer.Make(true, []uint32{0, 0}), of(math.MinInt64)}
	for _, k := range []int64{1, 2, 3, 6, 12, top, 1 << 32, 3 << 32, math.MaxInt64} {
		all = append(all, of(k), of(-k))
	}
	for _, limbs := range [][]uint32{{0, 1 << 31}, {top, top}, {0, 0, 6}, {top, top, top}} {
		all = append(all, integer.Make(false, limbs), integer.Make(true, limbs))
	}
	m := maker(88172645463325252)
	for i := range n {
		all = append(all, m.number(i%6))
	}
	return all
}

// rows are of every length from 0 to 9: nil and empty, noughts in all their forms, small numbers, great ones; n more are made.
func rows(n int) [][]integer.Int {
	all := [][]integer.Int{nil, {}, make([]integer.Int, 0, 4), {{}}, {{}, {}}, {integer.Make(true, nil), of(0), integer.Make(true, []uint32{0})}}
	for _, l := range [][]int64{
		{1}, {-1}, {2}, {-2}, {7}, {math.MinInt64}, {1, 1}, {1, -1}, {-1, 1}, {0, 1}, {0, -1}, {2, 0}, {-2, 0}, {4, -6}, {-4, 6}, {math.MinInt64, math.MinInt64},
		{4, -6, 0}, {0, -4, 6}, {0, 0, 5}, {0, 0, -5}, {0, 5, 0}, {6, 10, 15}, {-6, -10, -15}, {1 << 32, 3 << 32, 1 << 33}, {top, top, -top}, {12, 18, 24, 30}, {12, 18, 24, 31},
	} {
		r := make([]integer.Int, len(l))
		for i, x := range l {
			r[i] = of(x)
		}
		all = append(all, r)
	}
	all = append(all, numbers(0), numbers(5)[5:])
	m := maker(2463534242)
	for i := range n {
		all = append(all, m.row(i%10))
	}
	return all
}

// value is what an Int says by its limbs.
func value(x integer.Int) *big.Int {
	neg, limbs := x.Limbs()
	v := new(big.Int)
	for i := len(limbs) - 1; i >= 0; i-- {
		v.Lsh(v, 32)
		v.Or(v, big.NewInt(int64(limbs[i])))
	}
	if neg {
		v.Neg(v)
	}
	return v
}

// values are what the numbers of a row say.
func values(a []integer.Int) []*big.Int {
	l := make([]*big.Int, len(a))
	for i, x := range a {
		l[i] = value(x)
	}
	return l
}

// says tells whether a row is these numbers.
func says(a []integer.Int, want []*big.Int) bool {
	return slices.EqualFunc(a, want, func(x integer.Int, v *big.Int) bool { return value(x).Cmp(v) == 0 })
}

// is tells whether a row is these small numbers.
func is(a []integer.Int, want ...int64) bool {
	return slices.EqualFunc(a, want, func(x integer.Int, n int64) bool { return value(x).Cmp(big.NewInt(n)) == 0 })
}

// text is a row's text, told by numbers of another make.
func text(l []*big.Int) string {
	t := "["
	for i, v := range l {
		if i > 0 {
			t += " "
		}
		t += v.String()
	}
	return t + "]"
}

// show is a row's text, by no call of the package.
func show(a []integer.Int) string { return text(values(a)) }

// paired is what of answers for both values of each place; the rows are as long as each other.
func paired(a, b []integer.Int, of func(x, y *big.Int) *big.Int) []*big.Int {
	l := make([]*big.Int, len(a))
	for i := range a {
		l[i] = of(value(a[i]), value(b[i]))
	}
	return l
}
