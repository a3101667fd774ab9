package integer

import (
	"swage/api"
	"swage/limb"
)

// Over is x divided by c, or ErrArg, if c is 0, or ErrExact, if c does not divide x.
func (x Int) Over(c int) (Int, api.Errno) {
	quotient, rest, e := x.DivMod(Of(int64(c)))
	switch {
	case e != api.OK:
		return Int{}, e
	case rest.Sign() != 0:
		return Int{}, api.ErrExact
	}
	return quotient, api.OK
}

// DivMod is the quotient of x by y, and the remainder, which is never below 0, or ErrArg, if y is 0.
func (x Int) DivMod(y Int) (Int, Int, api.Errno) {
	limbs, left, e := limb.DivMod(x.limbs, y.limbs)
	if e != api.OK {
		return Int{}, Int{}, e
	}
	quotient, rest := made(x.neg != y.neg, limbs), made(x.neg, left)
	if rest.Sign() < 0 { // the amounts' quotient falls short: one more of y lifts the remainder above 0
		return quotient.Sub(Of(int64(y.Sign()))), rest.Add(y.Abs()), api.OK
	}
	return quotient, rest, api.OK
}

// Gcd is the greatest number that divides both, 0 of 0 and 0.
func (x Int) Gcd(y Int) Int {
	return made(false, limb.Gcd(x.limbs, y.limbs))
}

// Bezout is g, u and v: g the Gcd, and u x + v y = g; u is from 0 to below |y| / g, or x's sign, if y is 0.
func (x Int) Bezout(y Int) (Int, Int, Int) {
	if y.Sign() == 0 {
		return x.Abs(), Of(int64(x.Sign())), Int{}
	}
	g, u := x.euclid(y)
	period, _, _ := y.DivMod(g)
	_, u, _ = u.DivMod(period)
	v, _, _ := g.Sub(u.Mul(x)).DivMod(y)
	return g, u, v
}

// euclid is the Gcd of x and of y, which is not 0, and one u such that y divides what u x and the Gcd differ by.
func (x Int) euclid(y Int) (Int, Int) {
	// Each remainder is, but for multiples of y, its own u times x: so are y itself, and x's remainder.
	g, u := y.Abs(), Int{}
	_, rest, _ := x.DivMod(y)
	next := Of(1)
steps:
	for {
		quotient, left, e := g.DivMod(rest)
		switch e {
		case api.OK:
			g, rest = rest, left
			u, next = next, u.Sub(quotient.Mul(next))
		default: // what is divided by is 0: the remainder ahead of it was the last one
			break steps
		}
	}
	return g, u
}
