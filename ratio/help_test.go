package ratio_test

import (
	"math"
	"math/big"

	"swage/api"
	"swage/integer"
	"swage/ratio"
)

// top is the greatest limb.
const top = 1<<32 - 1

// of is a small whole number.
func of(n int64) integer.Int { return integer.Of(n) }

// rat is a fraction of small numbers; of a d that is 0 it is 0.
func rat(n, d int64) ratio.Rat {
	x, _ := ratio.Make(of(n), of(d))
	return x
}

// maker makes the same numbers in every run: a shift register, so that a test that fails does so again.
type maker uint64

func (m *maker) next() uint32 {
	*m ^= *m << 13
	*m ^= *m >> 7
	*m ^= *m << 17
	return uint32(*m >> 16)
}

// number has n limbs or fewer.
func (m *maker) number(n int) integer.Int {
	limbs := make([]uint32, n)
	for i := range limbs {
		limbs[i] = m.next()
	}
	return integer.Make(m.next()%2 == 0, limbs)
}

// pair is a numerator and a denominator, with something in common more often than not.
func (m *maker) pair(n int) (integer.Int, integer.Int) {
	common := m.number(int(m.next() % 3)).Mul(of(12)).Add(of(1))
	return m.number(int(m.next()) % (n + 1)).Mul(common), m.number(int(m.next()) % (n + 1)).Mul(common)
}

// wholes are numbers at which signs, limbs and int64s turn, 0 in all its forms among them, and n numbers more, of up to 5 limbs.
func wholes(n int) []integer.Int {
	all := []integer.Int{{}, of(0), integer.Make(true, nil), integer.Make(true, []uint32{0, 0}), of(math.MinInt64)}
	for _, k := range []int64{1, 2, 3, 4, 6, 7, 10, 12, 60, top, 1 << 32, 3 << 32, math.MaxInt64} {
		all = append(all, of(k), of(-k))
	}
	for _, limbs := range [][]uint32{{0, 1 << 31}, {top, top}, {0, 0, 1}, {0, 0, 6}, {top, top, top}} {
		all = append(all, integer.Make(false, limbs), integer.Make(true, limbs))
	}
	m := maker(88172645463325252)
	for i := range n {
		all = append(all, m.number(i%6))
	}
	return all
}

// samples are 0 in all its forms, whole ones, small fractions, and n more, of several limbs.
func samples(n int) []ratio.Rat {
	all := []ratio.Rat{{}, ratio.Whole(integer.Int{}), ratio.Whole(integer.Make(true, nil)), rat(0, 1), rat(0, -5), rat(0, math.MinInt64)}
	for _, x := range [][2]int64{{1, 1}, {1, 2}, {1, 3}, {2, 3}, {3, 2}, {4, 3}, {1, 4}, {3, 4}, {5, 6}, {1, 6}, {7, 12}, {26, 5}, {1, 60}, {1, top}, {top, 1 << 32}, {1, 1 << 32}, {math.MaxInt64, 2}, {math.MaxInt64, math.MinInt64}, {7, 7}, {12, -4}} {
		all = append(all, rat(x[0], x[1]), rat(-x[0], x[1]))
	}
	for _, x := range wholes(0) {
		all = append(all, ratio.Whole(x))
	}
	m := maker(2463534242)
	for end := len(all) + n; len(all) < end; {
		if x, e := ratio.Make(m.pair(4)); e == api.OK {
			all = append(all, x)
		}
	}
	return all
}

// number is what an Int says by its limbs.
func number(x integer.Int) *big.Int {
	neg, limbs := x.Limbs()
	v := new(big.Int)
	for i := len(limbs) - 1; i >= 0; i-- {
		v.Lsh(v, 32)
		v.Or(v, big.NewInt(int64(limbs[i])))
	}
	if neg {
		v.Neg(v)
	}
	return v
}

// value is what a Rat says by Num and Den; of a Den that may not be, 0.
func value(x ratio.Rat) *big.Rat {
	if x.Den().Sign() == 0 {
		return new(big.Rat)
	}
	return new(big.Rat).SetFrac(number(x.Num()), number(x.Den()))
}

// says tells whether a Rat is a number, in lowest terms.
func says(x ratio.Rat, v *big.Rat) bool {
	return number(x.Num()).Cmp(v.Num()) == 0 && number(x.Den()).Cmp(v.Denom()) == 0
}

// zero tells whether a Rat is 0, as all are beside an error.
func zero(x ratio.Rat) bool { return says(x, new(big.Rat)) }

// same tells whether two Rats are one number.
func same(x, y ratio.Rat) bool { return says(x, value(y)) && x.Text() == y.Text() }
