package ratio

import (
	"swage/api"
	"swage/integer"
)

// Neg is it with the other sign.
func (x Rat) Neg() Rat {
	return Rat{x.num.Neg(), x.den}
}

// Add is x and y together.
func (x Rat) Add(y Rat) Rat {
	common := x.Den().Gcd(y.Den())
	a, b := quotient(x.Den(), common), quotient(y.Den(), common)
	// What divides a, or b, divides one of both products and not the other: the sum can lose parts of common alone.
	rest := lowest(x.num.Mul(b).Add(y.num.Mul(a)), common)
	return made(rest.num, integer.Product(a, b, rest.Den()))
}

// Sub is x less y.
func (x Rat) Sub(y Rat) Rat {
	return x.Add(y.Neg())
}

// Mul is x times y.
func (x Rat) Mul(y Rat) Rat {
	// Each numerator has something in common with the other one's denominator alone.
	a, b := lowest(x.num, y.Den()), lowest(y.num, x.Den())
	return made(a.num.Mul(b.num), a.Den().Mul(b.Den()))
}

// Over is x divided by y, or ErrArg, if y is 0.
func (x Rat) Over(y Rat) (Rat, api.Errno) {
	turned, e := Make(y.Den(), y.num)
	if e != api.OK {
		return Rat{}, e
	}
	return x.Mul(turned), api.OK
}

// Sum is all together, 0 of none.
func Sum(l ...Rat) Rat {
	sum := Rat{}
	for _, x := range l {
		sum = sum.Add(x)
	}
	return sum
}

// Common is what each of l is times the least number above 0 that all denominators divide, and that number.
func Common(l ...Rat) ([]integer.Int, integer.Int) {
	d := integer.Of(1)
	for _, x := range l {
		d = d.Mul(quotient(x.Den(), d.Gcd(x.Den())))
	}
	var whole []integer.Int
	for _, x := range l {
		whole = append(whole, x.num.Mul(quotient(d, x.Den())))
	}
	return whole, d
}
