package limb

import (
	"math/bits"

	"swage/api"
)

// DivSmall is the whole quotient of a by c, and the remainder, or ErrArg, if c is 0.
func DivSmall(a []uint32, c uint32) ([]uint32, uint32, api.Errno) {
	if c == 0 {
		return nil, 0, api.ErrArg
	}
	quotient, rest := divideOwn(Norm(a), c)
	return quotient, rest, api.OK
}

// divideOwn makes of own, a list that nobody else has, its quotient by c, and tells the remainder.
func divideOwn(own []uint32, c uint32) ([]uint32, uint32) {
	var rest uint64
	for i := len(own) - 1; i >= 0; i-- {
		rest <<= limbBits
		rest |= uint64(own[i])
		own[i] = uint32(rest / uint64(c))
		rest %= uint64(c)
	}
	return trim(own), uint32(rest)
}

// DivMod is the whole quotient of a by b, and the remainder, or ErrArg, if b is 0.
func DivMod(a, b []uint32) ([]uint32, []uint32, api.Errno) {
	a, b = trim(a), trim(b)
	switch {
	case len(b) == 0:
		return nil, nil, api.ErrArg
	case len(a) < len(b):
		return nil, Norm(a), api.OK
	case len(b) == 1:
		quotient, rest := divideOwn(Norm(a), b[0])
		return quotient, Norm([]uint32{rest}), api.OK
	}
	quotient, rest := divideLong(a, b)
	return quotient, rest, api.OK
}

// divideLong divides a by b, of two limbs or more and no more than a has, limb by limb from the high end.
func divideLong(a, b []uint32) ([]uint32, []uint32) {
	// The divisor's top bit must be 1: else a guess from its top limbs may be far too great.
	up := bits.LeadingZeros32(b[len(b)-1])
	rest, by := make([]uint32, len(a)+1), make([]uint32, len(b)+1)
	shiftInto(rest, a, up)
	shiftInto(by, b, up)
	by = by[:len(b)]
	quotient := make([]uint32, len(a)-len(b)+1)
limbs:
	for j := len(quotient) - 1; j >= 0; j-- {
		part := rest[j : j+len(by)+1]
		quotient[j] = guess(part, by)
		if takeAway(part, by, quotient[j]) {
			continue limbs
		}
		giveBack(part, by)
		quotient[j]--
	}
	rest, _ = Shr(rest, up)
	return trim(quotient), rest
}

// guess is the limb of part's quotient by by, or one more. Of two limbs alone it would be up to two too great; a third one mends nearly all of these.
func guess(part, by []uint32) uint32 {
	n := len(by)
	top, next := uint64(by[n-1]), uint64(by[n-2])
	both := uint64(part[n])<<limbBits | uint64(part[n-1])
	limb, left := both/top, both%top
mend:
	for limb > mostLimb || limb*next > left<<limbBits|uint64(part[n-2]) {
		limb--
		left += top
		if left > mostLimb { // 2^32 times left is now more than any limb times next
			break mend
		}
	}
	return uint32(limb)
}

// takeAway takes c times by from part, and tells whether there was enough; else part has wrapped round.
func takeAway(part, by []uint32, c uint32) bool {
	var carry, borrow uint64
	for i, x := range by {
		carry += uint64(c) * uint64(x)
		d := uint64(part[i]) - uint64(uint32(carry)) - borrow
		part[i] = uint32(d)
		borrow = d >> 63
		carry >>= limbBits
	}
	d := uint64(part[len(by)]) - carry - borrow
	part[len(by)] = uint32(d)
	return d>>63 == 0
}

// giveBack adds by to part, which has wrapped round, and so wraps it back.
func giveBack(part, by []uint32) {
	var carry uint64
	for i, x := range by {
		carry += uint64(part[i]) + uint64(x)
		part[i] = uint32(carry)
		carry >>= limbBits
	}
	part[len(by)] += uint32(carry)
}

// Gcd is the greatest number that divides both, 0 of 0 and 0.
func Gcd(a, b []uint32) []uint32 {
	x, y := Norm(a), Norm(b)
	for len(y) > 0 {
		_, rest, _ := DivMod(x, y)
		x, y = y, rest
	}
	return x
}
