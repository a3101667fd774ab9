package limb_test

import (
	"math/big"
	"slices"
)

// top is the greatest limb.
const top = 1<<32 - 1

// l is a list of limbs, low first.
func l(limbs ...uint32) []uint32 { return limbs }

// edges are lists at which carries, borrows and high noughts are told apart.
func edges() [][]uint32 {
	return [][]uint32{
		nil, {}, {0}, {0, 0, 0}, {1}, {1, 0}, {2, 0, 0}, {10}, {top}, {top - 1, 0}, {1 << 31}, {1<<31 - 1},
		{0, 1}, {1, 1}, {top, 1}, {0, top}, {top, top}, {1, top - 1}, {0, 1 << 31}, {top, 1<<31 - 1}, {1, 1 << 31},
		{0, 0, 1}, {top, 0, 1}, {0, top, 1, 0}, {top, top, top}, {top, top, 1 << 31}, {0, top, top - 1, 1<<31 - 1},
	}
}

// maker makes the same limbs in every run: a shift register, so that a test that fails does so again.
type maker uint64

func (m *maker) next() uint32 {
	*m ^= *m << 13
	*m ^= *m >> 7
	*m ^= *m << 17
	return uint32(*m >> 16)
}

// limb is every other time one at which a carry or a guess turns.
func (m *maker) limb() uint32 {
	sharp := []uint32{0, 0, 1, top, top, top - 1, 1 << 31, 1<<31 - 1}
	if r := m.next(); r%2 == 0 {
		return sharp[r>>1%uint32(len(sharp))]
	}
	return m.next()
}

func (m *maker) list(n int) []uint32 {
	a := make([]uint32, n)
	for i := range a {
		a[i] = m.limb()
	}
	return a
}

// samples are the edges and n lists more, of up to 8 limbs.
func samples(n int) [][]uint32 {
	m := maker(88172645463325252)
	all := edges()
	for i := range n {
		all = append(all, m.list(i%9))
	}
	return all
}

// value is the number that a list says.
func value(a []uint32) *big.Int {
	v := new(big.Int)
	for i := len(a) - 1; i >= 0; i-- {
		v.Lsh(v, 32)
		v.Or(v, big.NewInt(int64(a[i])))
	}
	return v
}

// says tells whether a list says a number, and has no high noughts.
func says(a []uint32, v *big.Int) bool {
	return (len(a) == 0 || a[len(a)-1] != 0) && value(a).Cmp(v) == 0
}

// same holds two lists against each other; nil and empty ones are one.
func same(a, b []uint32) bool { return slices.Equal(a, b) }
