package synth

import (
	"math/bits"
	"slices"

	"swage/api"
)

// most is the greatest amount of a constant: no Det is above it, and no value of a form whose coefficients are those of a point that is in.
const most = 2 * api.MaxPoint * api.MaxPoint

// number is a whole number by its factors, for it may be above all constants, and above all ints.
type number struct {
	sign int   // 0 of 0, which has no other factors
	twos int   // how often 2 is a factor
	odd  []int // the other ones: primes, rising
}

// whole is the number n.
func whole(n int) number {
	return number{sign: 1}.times(n, 1)
}

// times is k times the e-th power of n.
func (k number) times(n, e int) number {
	switch {
	case e == 0:
		return k
	case n == 0 || k.sign == 0:
		return number{}
	case n < 0 && e%2 != 0:
		k.sign = -k.sign
	}
	n = amount(n)
	twos := bits.TrailingZeros(uint(n))
	k.twos += e * twos
	k.odd = slices.Concat(k.odd, slices.Repeat(primes(n>>twos), e))
	slices.Sort(k.odd)
	return k
}

// primes are those of which an odd number above 0 is the product, rising.
func primes(n int) []int {
	var l []int
	for p := 3; n > 1; p += 2 {
		if p*p > n {
			p = n // a prime, for all that is less was tried
		}
		for n%p == 0 {
			l = append(l, p)
			n /= p
		}
	}
	return l
}

// factor is what an instruction multiplies by, or divides by: c, or, of one that shifts, 2^c.
type factor struct {
	shifts bool
	c      int
}

// factors are those of a number's amount, each as great as an instruction has room for. A power of two goes with the last constant, if it has room beside it.
func (k number) factors() []factor {
	var l []factor
	c := 1
	for _, p := range k.odd {
		if c*p > most {
			l = append(l, factor{c: c})
			c = 1
		}
		c *= p
	}
	twos := k.twos
	if c > 1 {
		if twos <= bits.Len(uint(most/c))-1 {
			c, twos = c<<twos, 0
		}
		l = append(l, factor{c: c})
	}
	for ; twos > 0; twos -= api.MaxShift {
		l = append(l, factor{shifts: true, c: min(twos, api.MaxShift)})
	}
	return l
}

// asks is how many instructions there are where something times k is added.
func (k number) asks() int {
	if k.sign == 0 {
		return 0
	}
	return len(k.factors()) + 1
}
