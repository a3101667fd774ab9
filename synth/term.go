package synth

import (
	"slices"

	"swage/api"
)

// adder adds an instruction to the program that is being made.
type adder func(op, to, a, b, c int)

// term is what a register holds, or, if minus, that with the other sign: signs are put off, for a sum or a difference takes them in without an instruction more.
type term struct {
	at    int
	minus bool
}

// part is a term times a number.
type part struct {
	term
	by number
}

// total is the sum of parts, of which one at least is not times 0: where this one stands, if that is all, else in a register that is not held.
func total(add adder, parts []part, held []int) term {
	to := free(held)
	spare := free(append(held, to))
	parts = slices.DeleteFunc(parts, func(x part) bool { return x.by.sign == 0 })
	x := times(add, parts[0].term, parts[0].by, to)
	for _, y := range parts[1:] {
		x = sum(add, x, times(add, y.term, y.by, spare), to)
	}
	return x
}

// free is the first register that is not held.
func free(held []int) int {
	to := 0
	for slices.Contains(held, to) {
		to++
	}
	return to
}

// sum is x and y together, in to.
func sum(add adder, x, y term, to int) term {
	switch {
	case x.minus == y.minus:
		add(api.OpAdd, to, x.at, y.at, 0)
		return term{at: to, minus: x.minus}
	case x.minus:
		x, y = y, x
	}
	add(api.OpSub, to, x.at, y.at, 0)
	return term{at: to}
}

// opposite is x with the other sign.
func opposite(x term) term {
	return term{at: x.at, minus: !x.minus}
}

// times is x times k, which is not 0: where x stands, if k is 1 or -1, else in to.
func times(add adder, x term, k number, to int) term {
	return scaled(add, x, k, to, api.OpMul, api.OpShl)
}

// over is x divided by k, likewise.
func over(add adder, x term, k number, to int) term {
	return scaled(add, x, k, to, api.OpDiv, api.OpShr)
}

// scaled is x times k, or divided by it, as the operations are, of which one takes a constant, and one shifts.
func scaled(add adder, x term, k number, to, constant, shift int) term {
	for _, f := range k.factors() {
		op := constant
		if f.shifts {
			op = shift
		}
		add(op, to, x.at, 0, f.c)
		x.at = to
	}
	return term{at: x.at, minus: x.minus != (k.sign < 0)}
}
