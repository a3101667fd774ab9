package fold

import (
	"swage/api"
	"swage/prog"
)

// melted is what comes of two plain forms, b standing right behind a, and whether they melt.
func melted(a, b api.Instr) (api.Instr, bool) {
	if len(prog.Asks(b)) != 1 || b.A != a.To || b.To != a.To {
		return api.Instr{}, false
	}
	op, c, melts := together(a, b)
	if !melts {
		return api.Instr{}, false
	}
	return plain(instead(a, op, c)), true
}

// together is the operation, and its constant, that does what a and then b do, and whether there is one; b asks and sets what a sets.
func together(a, b api.Instr) (int, int, bool) {
	switch a.Op {
	case api.OpMove:
		return b.Op, b.C, true
	case api.OpNeg:
		return behindNeg(b)
	case api.OpMul:
		return behindMul(a.C, b)
	case api.OpDiv:
		return behindDiv(a.C, b)
	case api.OpShl:
		return behindShl(a.C, b)
	case api.OpShr:
		return behindShr(a.C, b)
	}
	return 0, 0, false
}

// behindNeg is what a change of sign and then b do.
func behindNeg(b api.Instr) (int, int, bool) {
	switch b.Op {
	case api.OpMove:
		return api.OpNeg, 0, true
	case api.OpNeg:
		return api.OpMove, 0, true
	case api.OpMul, api.OpDiv:
		return b.Op, -b.C, true
	}
	return 0, 0, false
}

// behindMul is what a multiplication by c and then b do.
func behindMul(c int, b api.Instr) (int, int, bool) {
	switch b.Op {
	case api.OpNeg:
		return api.OpMul, -c, true
	case api.OpMul:
		return api.OpMul, c * b.C, isConstant(c * b.C)
	case api.OpDiv:
		return quotient(c, b.C)
	}
	return 0, 0, false
}

// quotient is what a multiplication by c and then a division by d do; where neither divides the other no one operation does so.
func quotient(c, d int) (int, int, bool) {
	switch {
	case c%d == 0:
		return api.OpMul, c / d, true
	case d%c == 0:
		return api.OpDiv, d / c, true
	}
	return 0, 0, false
}

// behindDiv is what a division by c and then b do; a multiplication behind it does not take it away, for a division may fail.
func behindDiv(c int, b api.Instr) (int, int, bool) {
	switch b.Op {
	case api.OpNeg:
		return api.OpDiv, -c, true
	case api.OpDiv:
		return api.OpDiv, c * b.C, isConstant(c * b.C)
	}
	return 0, 0, false
}

// behindShl is what a shift up by c and then b do.
func behindShl(c int, b api.Instr) (int, int, bool) {
	switch b.Op {
	case api.OpShl:
		return api.OpShl, c + b.C, isShift(c + b.C)
	case api.OpShr:
		return difference(c, b.C)
	}
	return 0, 0, false
}

// difference is what a shift up by c and then one down by d do.
func difference(c, d int) (int, int, bool) {
	switch {
	case c > d:
		return api.OpShl, c - d, true
	case c < d:
		return api.OpShr, d - c, true
	}
	return api.OpMove, 0, true
}

// behindShr is what a shift down by c and then b do; one up behind it does not take it away, for one down may fail.
func behindShr(c int, b api.Instr) (int, int, bool) {
	if b.Op == api.OpShr {
		return api.OpShr, c + b.C, isShift(c + b.C)
	}
	return 0, 0, false
}

// isConstant tells whether a product of constants is not too great for one.
func isConstant(c int) bool {
	return -api.MaxConst <= c && c <= api.MaxConst
}

// isShift tells whether a sum of shifts is not too great for one.
func isShift(c int) bool {
	return c <= api.MaxShift
}
