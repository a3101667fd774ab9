package limb

import "swage/api"

// Add is a and b together.
func Add(a, b []uint32) []uint32 {
	a, b = trim(a), trim(b)
	if len(a) < len(b) {
		a, b = b, a
	}
	sum := make([]uint32, len(a)+1)
	var carry uint64
	for i, x := range a {
		carry += uint64(x)
		if i < len(b) {
			carry += uint64(b[i])
		}
		sum[i] = uint32(carry)
		carry >>= limbBits
	}
	sum[len(a)] = uint32(carry)
	return trim(sum)
}

// Sub is a less b, or ErrRange, if a is less than b.
func Sub(a, b []uint32) ([]uint32, api.Errno) {
	if Cmp(a, b) < 0 {
		return nil, api.ErrRange
	}
	a, b = trim(a), trim(b)
	left := make([]uint32, len(a))
	var borrow uint64
	for i, x := range a {
		d := uint64(x) - borrow
		if i < len(b) {
			d -= uint64(b[i])
		}
		left[i] = uint32(d)
		borrow = d >> 63 // d has wrapped round just if it fell below 0
	}
	return trim(left), api.OK
}

// Mul is a times b.
func Mul(a, b []uint32) []uint32 {
	a, b = trim(a), trim(b)
	product := make([]uint32, len(a)+len(b))
	for i, x := range a {
		var carry uint64
		for j, y := range b {
			carry += uint64(x)*uint64(y) + uint64(product[i+j]) // at most 2^64 - 1, even of the greatest limbs
			product[i+j] = uint32(carry)
			carry >>= limbBits
		}
		product[i+len(b)] = uint32(carry)
	}
	return trim(product)
}

// MulSmall is a times c.
func MulSmall(a []uint32, c uint32) []uint32 {
	return timesAnd(Norm(a), c, 0)
}

// timesAnd makes of own, a list that nobody else has, the number that it says times c, and d.
func timesAnd(own []uint32, c, d uint32) []uint32 {
	carry := uint64(d)
	for i, x := range own {
		carry += uint64(x) * uint64(c)
		own[i] = uint32(carry)
		carry >>= limbBits
	}
	return trim(append(own, uint32(carry)))
}
