package limb

import (
	"math/bits"

	"swage/api"
)

// Shl is a times 2 to the n, or ErrArg, if n is below 0, or ErrLong, if it is above MaxBits.
func Shl(a []uint32, n int) ([]uint32, api.Errno) {
	switch {
	case n < 0:
		return nil, api.ErrArg
	case n > api.MaxBits:
		return nil, api.ErrLong
	}
	a = trim(a)
	low := n / limbBits
	shifted := make([]uint32, low+len(a)+1)
	shiftInto(shifted[low:], a, n%limbBits)
	return trim(shifted), api.OK
}

// shiftInto writes a, shifted up by less than a limb's bits, into list, which has one limb more.
func shiftInto(list, a []uint32, n int) {
	var carry uint64
	for i, x := range a {
		carry |= uint64(x) << n
		list[i] = uint32(carry)
		carry >>= limbBits
	}
	list[len(a)] = uint32(carry)
}

// Shr is the whole quotient of a by 2 to the n, or ErrArg, if n is below 0.
func Shr(a []uint32, n int) ([]uint32, api.Errno) {
	if n < 0 {
		return nil, api.ErrArg
	}
	a = trim(a)
	if n/limbBits >= len(a) {
		return nil, api.OK
	}
	a = a[n/limbBits:]
	shifted := make([]uint32, len(a))
	var both uint64
	for i := len(a) - 1; i >= 0; i-- {
		both <<= limbBits
		both |= uint64(a[i])
		shifted[i] = uint32(both >> (n % limbBits))
	}
	return trim(shifted), api.OK
}

// Bits is the least n such that a is below 2 to the n.
func Bits(a []uint32) int {
	a = trim(a)
	if len(a) == 0 {
		return 0
	}
	return (len(a)-1)*limbBits + bits.Len32(a[len(a)-1])
}

// Bit tells whether the bit k of a is 1.
func Bit(a []uint32, k int) bool {
	if k < 0 || k/limbBits >= len(a) {
		return false
	}
	return a[k/limbBits]>>(k%limbBits)&1 == 1
}

// Twos is the greatest n such that 2 to the n divides a, 0 of 0.
func Twos(a []uint32) int {
	for i, x := range a {
		if x != 0 {
			return i*limbBits + bits.TrailingZeros32(x)
		}
	}
	return 0
}
