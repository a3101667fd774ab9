package integer

import (
	"swage/api"
	"swage/limb"
)

// Add is x and y together.
func (x Int) Add(y Int) Int {
	if x.neg == y.neg {
		return made(x.neg, limb.Add(x.limbs, y.limbs))
	}
	left, e := limb.Sub(x.limbs, y.limbs)
	if e == api.OK {
		return made(x.neg, left)
	}
	left, _ = limb.Sub(y.limbs, x.limbs)
	return made(y.neg, left)
}

// Sub is x less y.
func (x Int) Sub(y Int) Int {
	return x.Add(y.Neg())
}

// Mul is x times y.
func (x Int) Mul(y Int) Int {
	return made(x.neg != y.neg, limb.Mul(x.limbs, y.limbs))
}

// Times is x times c.
func (x Int) Times(c int) Int {
	return x.Mul(Of(int64(c)))
}

// Sum is all together, 0 of none.
func Sum(l ...Int) Int {
	sum := Int{}
	for _, x := range l {
		sum = sum.Add(x)
	}
	return sum
}

// Product is the product of all, 1 of none.
func Product(l ...Int) Int {
	product := Of(1)
	for _, x := range l {
		product = product.Mul(x)
	}
	return product
}
