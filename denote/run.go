package denote

import (
	"iter"
	"slices"

	"swage/api"
	"swage/integer"
	"swage/ratio"
)

// units are the rows of a program's registers at first: of an input 1 at its own place, all else is 0.
func units(p api.Prog) [][]ratio.Rat {
	rows := noughts(p.Regs, p.Ins)
	for k := range p.Ins {
		rows[k][k] = ratio.Whole(integer.Of(1))
	}
	return rows
}

// values are rows of one place each: of an input its number, of the other registers 0.
func values(p api.Prog, in []integer.Int) [][]ratio.Rat {
	rows := noughts(p.Regs, 1)
	for k, n := range in {
		rows[k][0] = ratio.Whole(n)
	}
	return rows
}

// noughts are n rows of so many places, 0 at each.
func noughts(n, places int) [][]ratio.Rat {
	rows := make([][]ratio.Rat, n)
	for r := range rows {
		rows[r] = make([]ratio.Rat, places)
	}
	return rows
}

// run tells of each instruction of a program that may be its number and the row that it sets, too wide or not, the registers having these rows at first. A row that it has told must stay as it is.
func run(p api.Prog, first [][]ratio.Rat) iter.Seq2[int, []ratio.Rat] {
	return func(yield func(int, []ratio.Rat) bool) {
		held := slices.Clone(first)
		for k, i := range p.Code {
			held[i.To] = each(held[i.A], held[i.B], does(i)) // where B is not asked it is 0, and there is an r0
			if !yield(k, held[i.To]) {
				return
			}
		}
	}
}

// end is what the outs' registers have at the end, a new list each, all registers having these rows at first; or ErrLong, if an instruction is too wide, needed or not.
func end(p api.Prog, first [][]ratio.Rat) ([][]ratio.Rat, api.Errno) {
	held := slices.Clone(first)
	for k, l := range run(p, first) {
		if tooWide(l) {
			return nil, api.ErrLong
		}
		held[p.Code[k].To] = l
	}
	rows := make([][]ratio.Rat, len(p.Outs))
	for k, r := range p.Outs {
		rows[k] = slices.Clone(held[r]) // the same register may be an out twice
	}
	return rows, api.OK
}

// tooWide tells whether a fraction of a row has a Num or a Den of more than MaxBits bits.
func tooWide(l []ratio.Rat) bool {
	return slices.ContainsFunc(l, func(x ratio.Rat) bool {
		return max(x.Num().Bits(), x.Den().Bits()) > api.MaxBits
	})
}

// each is a new row: what at says of both rows, place by place.
func each(a, b []ratio.Rat, at func(x, y ratio.Rat) ratio.Rat) []ratio.Rat {
	l := make([]ratio.Rat, len(a))
	for k := range l {
		l[k] = at(a[k], b[k])
	}
	return l
}

// does is what an instruction does at one place, x being what A has there, and y what B has.
func does(i api.Instr) func(x, y ratio.Rat) ratio.Rat {
	switch i.Op {
	case api.OpNeg:
		return func(x, _ ratio.Rat) ratio.Rat { return x.Neg() }
	case api.OpAdd:
		return func(x, y ratio.Rat) ratio.Rat { return x.Add(y) }
	case api.OpSub:
		return func(x, y ratio.Rat) ratio.Rat { return x.Sub(y) }
	case api.OpMul:
		return times(integer.Of(int64(i.C)), integer.Of(1))
	case api.OpDiv:
		return times(integer.Of(1), integer.Of(int64(i.C)))
	case api.OpShl:
		return times(twos(i.C), integer.Of(1))
	case api.OpShr:
		return times(integer.Of(1), twos(i.C))
	}
	return func(x, _ ratio.Rat) ratio.Rat { return x } // OpMove: there is no other one in a program that may be
}

// times is what multiplies by n / d, which is not 0.
func times(n, d integer.Int) func(x, y ratio.Rat) ratio.Rat {
	by, _ := ratio.Make(n, d)
	return func(x, _ ratio.Rat) ratio.Rat { return x.Mul(by) }
}

// twos is 2 to the n.
func twos(n int) integer.Int {
	power, _ := integer.Of(1).Shl(n)
	return power
}
