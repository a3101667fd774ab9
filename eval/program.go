package eval

import (
	"math/bits"

	"swage/api"
)

// term is what a register holds, or, if minus, that with the other sign: signs are put off, for a sum or a difference takes them in without an instruction more.
type term struct {
	at    int
	minus bool
}

// adder adds an instruction to the program that is being made.
type adder func(op, to, a, b, c int)

// Program is a program that evaluates k coefficients at points; or ErrArg, unless these are asked rightly. Coefficients are multiplied by powers of B and added from the last one on, the sum so far times A each time; no instruction sets an input, for the next point asks it again.
func Program(k int, l []api.Point) (api.Prog, api.Errno) {
	if !rightly(k, l) {
		return api.Prog{}, api.ErrArg
	}
	spare := k + len(l) // behind the inputs and a register for each point
	p := api.Prog{Ins: k, Regs: spare + 1, Outs: make([]int, len(l))}
	add := func(op, to, a, b, c int) {
		p.Code = append(p.Code, api.Instr{Op: op, To: to, A: a, B: b, C: c})
	}
points:
	for i, q := range l {
		own := k + i
		p.Outs[i] = own
		turned := turns(q)
		if turned {
			q = api.Point{A: q.B, B: q.A}
		}
		var value term
	coefficients:
		for j := k - 1; j >= 0; j-- {
			part := term{at: j}
			if turned {
				part.at = k - 1 - j
			}
			switch {
			case q.A == 0 && j > 0:
				continue coefficients
			case q.B == 0 && j < k-1:
				continue points // all is times 0, and 0 is what a register holds that nothing sets
			case q.A == 0 || j == k-1:
				value = times(add, part, q.B, k-1-j, own)
			default:
				value = times(add, value, q.A, 1, own)
				value = sum(add, value, times(add, part, q.B, k-1-j, spare), own)
			}
		}
		p.Outs[i] = signed(add, value, own)
	}
	return p, api.OK
}

// turns tells whether a point is evaluated from its coefficients in turned order, at {B, A} (P11.6): where the powers of A are 1 but for their signs, so that no coefficient need be multiplied, or where B is 0, so that one coefficient is all there is.
func turns(q api.Point) bool {
	return q.B == 0 || amount(q.A) == 1
}

// times is x times n to the e, n being a coordinate that is not 0, in x's own register or in to. As many factors as MaxPoint has room for go by one instruction.
func times(add adder, x term, n, e, to int) term {
	for e > 0 {
		by := 1
		for e > 0 && amount(by*n) <= api.MaxPoint {
			by *= n
			e--
		}
		x = product(add, x, by, to)
	}
	return x
}

// product is x times by, of an amount from 1 to MaxPoint: in x's own register, if they differ by the sign at most, else in to.
func product(add adder, x term, by, to int) term {
	n := amount(by)
	switch power := bits.TrailingZeros(uint(n)); {
	case n == 1:
		to = x.at
	case n == 1<<power:
		add(api.OpShl, to, x.at, 0, power)
	default:
		add(api.OpMul, to, x.at, 0, n)
	}
	return term{at: to, minus: x.minus != (by < 0)}
}

// sum is x and y together, in to.
func sum(add adder, x, y term, to int) term {
	switch {
	case x.minus == y.minus:
		add(api.OpAdd, to, x.at, y.at, 0)
		return term{at: to, minus: x.minus}
	case x.minus:
		x, y = y, x
	}
	add(api.OpSub, to, x.at, y.at, 0)
	return term{at: to}
}

// signed is the register that holds x with its sign: its own, or to.
func signed(add adder, x term, to int) int {
	if !x.minus {
		return x.at
	}
	add(api.OpNeg, to, x.at, 0, 0)
	return to
}

// amount is a number without its sign.
func amount(n int) int {
	return max(n, -n)
}
