package synth

import (
	"iter"
	"math"

	"swage/api"
	"swage/point"
)

// form is the linear form a A + b B of a point's coordinates.
type form struct {
	a, b int
}

// at is the form's value at a point.
func (f form) at(p api.Point) int {
	return f.a*p.A + f.b*p.B
}

// power is the e-th power of the form's value at a point.
func (f form) power(p api.Point, e int) number {
	return whole(1).times(f.at(p), e)
}

// coefficient is that of A^j B^(e-j) in the form's e-th power.
func (f form) coefficient(e, j int) number {
	return whole(choose(e, j)).times(f.a, j).times(f.b, e-j)
}

// choose is in how many ways j of e things are chosen.
func choose(e, j int) int {
	n := 1
	for i := range j {
		n = n * (e - i) / (i + 1)
	}
	return n
}

// vanishing is the form that vanishes at p, a norm; what else vanishes there it divides, for no number above 1 divides both its coefficients. Its own sign is the one that leaves the last coefficient's sign as it is in a product.
func vanishing(p api.Point) form {
	if p.B == 0 {
		return form{b: 1}
	}
	return form{a: p.B, b: -p.A}
}

// ones tells forms that are 1 at p, a norm: Bezout's, and those beside it, as far as their values at points stay within the constants.
func ones(p api.Point) iter.Seq[form] {
	return func(yield func(form) bool) {
		_, u, v, _ := point.Bezout(p)
		for _, t := range [...]int{0, 1, -1} {
			f := form{a: u + t*p.B, b: v - t*p.A}
			if point.In(api.Point{A: f.a, B: f.b}) && !yield(f) {
				return
			}
		}
	}
}

// cheapest is, of the forms that are 1 at p, the first one of those whose power asks the fewest instructions, rest being the points that are left.
func cheapest(p api.Point, rest []value) form {
	var best form
	least := math.MaxInt
forms:
	for f := range ones(p) {
		price := 0
		for j := range len(rest) + 1 {
			price += f.coefficient(len(rest), j).asks()
		}
		for _, q := range rest {
			if price >= least {
				continue forms
			}
			price += f.power(q.point, len(rest)).asks()
		}
		if price < least {
			best, least = f, price
		}
	}
	return best
}
