package row

import (
	"swage/api"
	"swage/integer"
)

// pairs is a new row: what of answers for both numbers of each place; or ErrRange, if the rows are not as long as each other.
func pairs(a, b []integer.Int, of func(x, y integer.Int) integer.Int) ([]integer.Int, api.Errno) {
	if len(a) != len(b) {
		return nil, api.ErrRange
	}
	return each(len(a), func(i int) integer.Int { return of(a[i], b[i]) }), api.OK
}

// Add is a and b together, or ErrRange, if they are not as long as each other.
func Add(a, b []integer.Int) ([]integer.Int, api.Errno) {
	return pairs(a, b, integer.Int.Add)
}

// Sub is a less b, or ErrRange, if they are not as long as each other.
func Sub(a, b []integer.Int) ([]integer.Int, api.Errno) {
	return pairs(a, b, integer.Int.Sub)
}

// Combine is c times a and d times b, together, or ErrRange, if a and b are not as long as each other.
func Combine(c integer.Int, a []integer.Int, d integer.Int, b []integer.Int) ([]integer.Int, api.Errno) {
	return pairs(a, b, func(x, y integer.Int) integer.Int { return c.Mul(x).Add(d.Mul(y)) })
}

// Dot is the sum of the products, place by place, or ErrRange, if a and b are not as long as each other.
func Dot(a, b []integer.Int) (integer.Int, api.Errno) {
	products, e := pairs(a, b, integer.Int.Mul)
	return integer.Sum(products...), e
}

// Neg is a, each number with the other sign.
func Neg(a []integer.Int) []integer.Int {
	return each(len(a), func(i int) integer.Int { return a[i].Neg() })
}

// Scale is a, each number times c.
func Scale(a []integer.Int, c integer.Int) []integer.Int {
	return each(len(a), func(i int) integer.Int { return a[i].Mul(c) })
}
