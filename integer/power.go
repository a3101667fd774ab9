package integer

import (
	"math/bits"

	"swage/api"
	"swage/limb"
)

// Shl is x times 2 to the n, or ErrArg, if n is below 0, or ErrLong, if it is above MaxBits.
func (x Int) Shl(n int) (Int, api.Errno) {
	limbs, e := limb.Shl(x.limbs, n)
	return made(x.neg, limbs), e
}

// Shr is x divided by 2 to the n, or ErrArg, if n is below 0, or ErrExact, if that does not divide x.
func (x Int) Shr(n int) (Int, api.Errno) {
	if x.Sign() != 0 && n > x.Twos() {
		return Int{}, api.ErrExact
	}
	limbs, e := limb.Shr(x.limbs, n)
	return made(x.neg, limbs), e
}

// Twos is how often 2 divides it, -1 of 0.
func (x Int) Twos() int {
	if x.Sign() == 0 {
		return -1
	}
	return limb.Twos(x.limbs)
}

// Bits is how many binary digits its amount has, 0 of 0.
func (x Int) Bits() int {
	return limb.Bits(x.limbs)
}

// Pow is x to the e, or ErrArg, if e is below 0, or ErrLong, if Bits times e is above MaxBits.
func (x Int) Pow(e int) (Int, api.Errno) {
	switch n := x.Bits(); {
	case e < 0:
		return Int{}, api.ErrArg
	case n > 0 && e > api.MaxBits/n: // n times e may be no int
		return Int{}, api.ErrLong
	}
	power := Of(1)
	for k := bits.Len(uint(e)) - 1; k >= 0; k-- { // from the high bit on: no power is made that is not asked
		power = power.Mul(power)
		if e>>k&1 == 1 {
			power = power.Mul(x)
		}
	}
	return power, api.OK
}
