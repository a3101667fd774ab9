package point

import (
	"swage/api"
	"swage/integer"
)

// Powers are the n numbers A^j B^(n-1-j), or ErrArg, if p is not in, or n is below 0 or above 2 MaxParts.
func Powers(p api.Point, n int) ([]integer.Int, api.Errno) {
	if !In(p) || n < 0 || n > 2*api.MaxParts {
		return nil, api.ErrArg
	}
	l := make([]integer.Int, n)
	for j := range l {
		l[j] = power(p.A, j).Mul(power(p.B, n-1-j))
	}
	return l, api.OK
}

// power is a coordinate to the e, which is from 0 to below 2 MaxParts: so small that Pow refuses none.
func power(n, e int) integer.Int {
	x, _ := integer.Of(int64(n)).Pow(e)
	return x
}

// Bezout is g, the greatest number that divides both coordinates, and u and v such that u A + v B is g; or ErrArg, if p is not in.
func Bezout(p api.Point) (int, int, int, api.Errno) {
	if !In(p) {
		return 0, 0, 0, api.ErrArg
	}
	g := divisor(p)
	switch {
	case p.B != 0:
		u, v := least(p, g)
		return g, u, v, api.OK
	case p.A < 0:
		return g, -1, 0, api.OK
	case p.A > 0:
		return g, 1, 0, api.OK
	}
	return 0, 0, 0, api.OK
}

// least is the u of least amount for which B divides g - u A, the one above 0 first, and the quotient. B is not 0, and g is what divides both coordinates: so there is such a u up to the half of B, and the loop ends.
func least(p api.Point, g int) (int, int) {
	for amount := 0; ; amount++ {
		for _, u := range [2]int{amount, -amount} {
			if rest := g - u*p.A; rest%p.B == 0 {
				return u, rest / p.B
			}
		}
	}
}
