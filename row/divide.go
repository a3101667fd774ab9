package row

import (
	"swage/api"
	"swage/integer"
)

// Over is a, each number divided by c, or ErrArg, if c is 0, or ErrExact, if c does not divide each of them.
func Over(a []integer.Int, c integer.Int) ([]integer.Int, api.Errno) {
	if c.Sign() == 0 {
		return nil, api.ErrArg
	}
	e := api.OK
	quotients := each(len(a), func(i int) integer.Int {
		quotient, rest, _ := a[i].DivMod(c)
		if rest.Sign() != 0 {
			e = api.ErrExact
		}
		return quotient
	})
	if e != api.OK {
		return nil, e
	}
	return quotients, api.OK
}

// Content is the greatest number that divides all of a, 0, if it has no number but 0.
func Content(a []integer.Int) integer.Int {
	var content integer.Int
	one := integer.Of(1)
numbers:
	for _, x := range a {
		content = content.Gcd(x)
		if content.Cmp(one) == 0 { // whatever comes, it is 1 from here on
			break numbers
		}
	}
	return content
}

// Primitive is a divided by g, and g, where g is the content, with a minus, if the first number that is not 0 is below 0. Of noughts it is noughts, and 0.
func Primitive(a []integer.Int) ([]integer.Int, integer.Int) {
	g := Content(a)
	if lead(a) < 0 {
		g = g.Neg()
	}
	l, e := Over(a, g)
	if e != api.OK { // g is 0: it divides all else
		return noughts(len(a)), g
	}
	return l, g
}

// Widest is the greatest number without its sign, 0 of none.
func Widest(a []integer.Int) integer.Int {
	var widest integer.Int
	for _, x := range a {
		if amount := x.Abs(); amount.Cmp(widest) > 0 {
			widest = amount
		}
	}
	return widest
}
