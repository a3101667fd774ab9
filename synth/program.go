package synth

import (
	"slices"

	"swage/api"
	"swage/point"
)

// value is a polynomial's value at a point that is its own norm.
type value struct {
	point api.Point
	term
}

// Program is a program that interpolates at points, and takes their values away in their own order; or ErrArg, if they are not right.
func Program(l []api.Point) (api.Prog, api.Errno) {
	if !Right(l) {
		return api.Prog{}, api.ErrArg
	}
	return made(l, rising(len(l))), api.OK
}

// Ordered is a program that interpolates at points, and takes their values away in an order; or ErrArg, if they are not right, or it is no order of them.
func Ordered(l []api.Point, order []int) (api.Prog, api.Errno) {
	if !Right(l) || !isOrder(order, len(l)) {
		return api.Prog{}, api.ErrArg
	}
	return made(l, order), api.OK
}

// rising is the order 0, 1, .. n - 1.
func rising(n int) []int {
	l := make([]int, n)
	for i := range l {
		l[i] = i
	}
	return l
}

// isOrder tells whether a list is an order of n points.
func isOrder(order []int, n int) bool {
	return len(order) == n && slices.Equal(slices.Sorted(slices.Values(order)), rising(n))
}

// made is the program of right points and an order of them: it takes their values away, and lays the coefficients together from the last of these on.
func made(l []api.Point, order []int) api.Prog {
	p := api.Prog{Ins: len(l), Regs: len(l)}
	add := func(op, to, a, b, c int) {
		p.Code = append(p.Code, api.Instr{Op: op, To: to, A: a, B: b, C: c})
		p.Regs = max(p.Regs, to+1)
	}
	values := make([]value, len(l))
	for k, i := range order {
		values[k] = atNorm(add, l, i)
	}
	forms := takeAway(add, values)
	var c []term
	for k := len(values) - 1; k >= 0; k-- {
		c = together(add, values[:k+1], forms[k], c)
	}
	for _, x := range c {
		if x.minus {
			add(api.OpNeg, x.at, x.at, 0, 0)
		}
		p.Outs = append(p.Outs, x.at)
	}
	return p
}

// atNorm is the value at the norm of the point i, made of the input i, in which the common factor of the point's coordinates stands to the n-1st power.
func atNorm(add adder, l []api.Point, i int) value {
	p, _ := point.Norm(l[i])
	factor := l[i].B // where p is 0
	if p.A != 0 {
		factor = l[i].A / p.A
	}
	return value{point: p, term: over(add, term{at: i}, whole(1).times(factor, len(l)-1), i)}
}

// takeAway takes values away point by point. P, of as many coefficients as values are left, is P(p) times a power of a form that is 1 at p, and the form that vanishes at p times another polynomial: this one's values at the other points, which are whole again, go to where P's stood. Answered are the forms that are 1, for each point its own.
func takeAway(add adder, l []value) []form {
	forms := make([]form, len(l))
	spare := len(l) // the first register behind the inputs
	for k, p := range l {
		rest := l[k+1:]
		forms[k] = cheapest(p.point, rest)
		gone := vanishing(p.point)
	values:
		for i, q := range rest {
			by := forms[k].power(q.point, len(rest))
			divisor := whole(gone.at(q.point))
			if by.sign == 0 {
				rest[i].term = over(add, q.term, divisor, q.at)
				continue values
			}
			x := sum(add, q.term, opposite(times(add, p.term, by, spare)), q.at)
			rest[i].term = over(add, x, divisor, q.at)
		}
	}
	return forms
}

// together are the coefficients of the polynomial from which the last of the values was taken away, f being the form that is 1 at its point, and c the coefficients of the polynomial that was left.
func together(add adder, values []value, f form, c []term) []term {
	last := values[len(values)-1]
	gone := vanishing(last.point)
	var l []term
	for j := range len(c) + 1 {
		parts := []part{{last.term, f.coefficient(len(c), j)}}
		if j > 0 {
			parts = append(parts, part{c[j-1], whole(gone.a)})
		}
		if j < len(c) {
			parts = append(parts, part{c[j], whole(gone.b)})
		}
		l = append(l, total(add, parts, held(values, c[max(j-1, 0):], l)))
	}
	return l
}

// held are the registers in which values and coefficients stand that are still asked.
func held(values []value, coefficients ...[]term) []int {
	var l []int
	for _, v := range values {
		l = append(l, v.at)
	}
	for _, x := range slices.Concat(coefficients...) {
		l = append(l, x.at)
	}
	return l
}
