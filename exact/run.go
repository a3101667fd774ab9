package exact

import (
	"iter"
	"slices"

	"swage/api"
	"swage/integer"
	"swage/prog"
	"swage/row"
)

// means are how instructions reckon with what registers hold, be it numbers or rows.
type means[T any] struct {
	neg           func(a T) T
	add, sub      func(a, b T) T
	mul           func(a T, c int) T
	div, shl, shr func(a T, c int) (T, api.Errno)
}

// numbers are the means of registers that hold numbers.
func numbers() means[integer.Int] {
	return means[integer.Int]{
		neg: integer.Int.Neg,
		add: integer.Int.Add,
		sub: integer.Int.Sub,
		mul: integer.Int.Times,
		div: integer.Int.Over,
		shl: integer.Int.Shl,
		shr: integer.Int.Shr,
	}
}

// rows are the means of registers that hold rows, all of them as long as each other. No row that a register holds is ever written into.
func rows() means[[]integer.Int] {
	return means[[]integer.Int]{
		neg: row.Neg,
		add: func(a, b []integer.Int) []integer.Int {
			l, _ := row.Add(a, b)
			return l
		},
		sub: func(a, b []integer.Int) []integer.Int {
			l, _ := row.Sub(a, b)
			return l
		},
		mul: func(a []integer.Int, c int) []integer.Int { return row.Scale(a, integer.Of(int64(c))) },
		div: func(a []integer.Int, c int) ([]integer.Int, api.Errno) { return row.Over(a, integer.Of(int64(c))) },
		shl: func(a []integer.Int, c int) ([]integer.Int, api.Errno) { return row.Scale(a, twos(c)), api.OK },
		shr: func(a []integer.Int, c int) ([]integer.Int, api.Errno) { return row.Over(a, twos(c)) },
	}
}

// twos is 2 to the n.
func twos(n int) integer.Int {
	power, _ := integer.Of(1).Shl(n)
	return power
}

// does is what an instruction sets, of what A and B hold, or ErrExact, if it fails.
func does[T any](i api.Instr, a, b T, by means[T]) (T, api.Errno) {
	switch i.Op {
	case api.OpNeg:
		return by.neg(a), api.OK
	case api.OpAdd:
		return by.add(a, b), api.OK
	case api.OpSub:
		return by.sub(a, b), api.OK
	case api.OpMul:
		return by.mul(a, i.C), api.OK
	case api.OpDiv:
		return by.div(a, i.C)
	case api.OpShl:
		return by.shl(a, i.C)
	case api.OpShr:
		return by.shr(a, i.C)
	}
	return a, api.OK // OpMove: there is no other one in a program that may be
}

// follow does the instructions of a program that may be one by one, up to the first one that fails, and tells each one's number and what it sets. It writes into held: so the registers are there when it has ended.
func follow[T any](p api.Prog, held []T, by means[T]) iter.Seq2[int, T] {
	return func(yield func(int, T) bool) {
	instructions:
		for k, i := range p.Code {
			set, e := does(i, held[i.A], held[i.B], by) // where B is not asked it is 0, and there is an r0
			switch e {
			case api.OK:
				held[i.To] = set
			default:
				break instructions
			}
			if !yield(k, set) {
				return
			}
		}
	}
}

// end is what the outs' registers hold at the end, or ErrExact and the number of the first instruction that fails, needed or not.
func end[T any](p api.Prog, held []T, by means[T]) ([]T, int, api.Errno) {
	done := 0
	for range follow(p, held, by) {
		done++
	}
	if done < len(p.Code) {
		return nil, done, api.ErrExact
	}
	outs := make([]T, len(p.Outs))
	for k, r := range p.Outs {
		outs[k] = held[r]
	}
	return outs, 0, api.OK
}

// given is ErrProg of a program that may not be, ErrRange, unless it has as many inputs as in.
func given[T any](p api.Prog, in []T) api.Errno {
	if _, e := prog.Check(p); e != api.OK {
		return e
	}
	if len(in) != p.Ins {
		return api.ErrRange
	}
	return api.OK
}

// fits is ErrProg of a program that may not be, ErrRange of a grid that does not fit it.
func fits(p api.Prog, grid [][]integer.Int) api.Errno {
	if e := given(p, grid); e != api.OK {
		return e
	}
	columns := len(grid[0]) // a program that may be has an input
	unlike := func(l []integer.Int) bool { return len(l) != columns }
	if columns > api.MaxCoeffs || slices.ContainsFunc(grid, unlike) {
		return api.ErrRange
	}
	return api.OK
}

// registers are what a program's registers hold at first: the inputs' these, all others nought.
func registers[T any](p api.Prog, in []T, nought T) []T {
	held := slices.Repeat([]T{nought}, p.Regs)
	copy(held, in)
	return held
}

// firstNumbers are the registers at first of a program that is run on numbers.
func firstNumbers(p api.Prog, in []integer.Int) []integer.Int {
	return registers(p, in, integer.Int{})
}

// firstRows are the registers at first of a program that is followed over a grid that fits it.
func firstRows(p api.Prog, grid [][]integer.Int) [][]integer.Int {
	noughts, _ := row.Zero(len(grid[0]))
	return registers(p, grid, noughts)
}
