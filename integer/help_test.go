package integer_test

import (
	"math"
	"math/big"

	"swage/integer"
)

// top is the greatest limb.
const top = 1<<32 - 1

// of is a small number.
func of(n int64) integer.Int { return integer.Of(n) }

// ends are small numbers at which signs, limbs and int64s turn; each stands with the other sign, too.
func ends() []int64 {
	all := []int64{0}
	for _, n := range []int64{1, 2, 3, 5, 6, 7, 9, 10, 12, 18, 60, 1 << 31, top, 1 << 32, 3 << 32, 1<<62 - 1, 1 << 62, math.MaxInt64} {
		all = append(all, n, -n)
	}
	return append(all, math.MinInt64)
}

// maker makes the same numbers in every run: a shift register, so that a test that fails does so again.
type maker uint64

func (m *maker) next() uint32 {
	*m ^= *m << 13
	*m ^= *m >> 7
	*m ^= *m << 17
	return uint32(*m >> 16)
}

// number has up to n limbs, every other one of them such that carries turn there.
func (m *maker) number(n int) integer.Int {
	sharp := []uint32{0, 0, 1, top, top, top - 1, 1 << 31, 1<<31 - 1}
	limbs := make([]uint32, n)
	for i := range limbs {
		limbs[i] = m.next()
		if r := m.next(); r%2 == 0 {
			limbs[i] = sharp[r>>1%uint32(len(sharp))]
		}
	}
	return integer.Make(m.next()%2 == 0, limbs)
}

// samples are the ends, numbers about 2^63, 2^64 and 2^96, 0 in all its forms, and n numbers more, of up to 6 limbs.
func samples(n int) []integer.Int {
	all := []integer.Int{{}, integer.Make(true, nil), integer.Make(true, []uint32{0, 0})}
	for _, k := range ends() {
		all = append(all, of(k))
	}
	for _, limbs := range [][]uint32{{0, 1 << 31}, {1, 1 << 31}, {top, top}, {0, 0, 1}, {1, 0, 1}, {top, top, top}, {0, 0, 0, 1}, {0, 6, 0, 12}} {
		all = append(all, integer.Make(false, limbs), integer.Make(true, limbs))
	}
	m := maker(88172645463325252)
	for i := range n {
		all = append(all, m.number(i%7))
	}
	return all
}

// value is the number that an Int says by its limbs.
func value(x integer.Int) *big.Int {
	neg, limbs := x.Limbs()
	v := new(big.Int)
	for i := len(limbs) - 1; i >= 0; i-- {
		v.Lsh(v, 32)
		v.Or(v, big.NewInt(int64(limbs[i])))
	}
	if neg {
		v.Neg(v)
	}
	return v
}

// says tells whether an Int says a number, without high noughts, and 0 without a minus.
func says(x integer.Int, v *big.Int) bool {
	neg, limbs := x.Limbs()
	return (len(limbs) == 0 && !neg || len(limbs) > 0 && limbs[len(limbs)-1] != 0) && value(x).Cmp(v) == 0
}

// zero tells whether an Int is 0, as all others are beside an error.
func zero(x integer.Int) bool { return says(x, new(big.Int)) }

// same tells whether two Ints say one number.
func same(x, y integer.Int) bool { return says(x, value(y)) }
