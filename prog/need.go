package prog

import (
	"iter"
	"slices"

	"swage/api"
)

// Counts are how many instructions of each sort there are: OpMove; OpNeg, OpAdd and OpSub; OpMul; OpDiv; OpShl and OpShr.
type Counts struct {
	Moves, Adds, Muls, Divs, Shifts int
}

// Count is how many instructions of each sort a program has.
func Count(p api.Prog) (Counts, api.Errno) {
	if _, e := Check(p); e != api.OK {
		return Counts{}, e
	}
	var c Counts
	for _, i := range p.Code {
		switch i.Op {
		case api.OpMove:
			c.Moves++
		case api.OpNeg, api.OpAdd, api.OpSub:
			c.Adds++
		case api.OpMul:
			c.Muls++
		case api.OpDiv:
			c.Divs++
		case api.OpShl, api.OpShr:
			c.Shifts++
		}
	}
	return c, api.OK
}

// Needed tells of each instruction whether it is needed.
func Needed(p api.Prog) ([]bool, api.Errno) {
	if _, e := Check(p); e != api.OK {
		return nil, e
	}
	needed := make([]bool, len(p.Code))
	wanted := make([]bool, p.Regs) // of each register whether what stands there is asked later on, by what is needed
	for _, r := range p.Outs {
		wanted[r] = true
	}
	for k, i := range Back(p) {
		if !wanted[i.To] {
			continue
		}
		needed[k] = true
		wanted[i.To] = false // ahead of what it asks: it may ask the register that it sets
		for _, r := range Asks(i) {
			wanted[r] = true
		}
	}
	return needed, api.OK
}

// Depth is the greatest depth of an out at the end.
func Depth(p api.Prog) (int, api.Errno) {
	if _, e := Check(p); e != api.OK {
		return 0, e
	}
	depths := make([]int, p.Regs)
	for _, i := range p.Code {
		depths[i.To] = 1 + deepest(depths, Asks(i))
	}
	return deepest(depths, p.Outs), api.OK
}

// deepest is the greatest depth of the registers of a list.
func deepest(depths, l []int) int {
	most := 0
	for _, r := range l {
		most = max(most, depths[r])
	}
	return most
}

// Back tells the instructions with their numbers, from the last one to the first; nothing of a program that may not be. They are those that stood there when it was called: the list that was handed in is not kept.
func Back(p api.Prog) iter.Seq2[int, api.Instr] {
	var code []api.Instr
	if _, e := Check(p); e == api.OK {
		code = slices.Clone(p.Code)
	}
	return func(yield func(int, api.Instr) bool) {
		for k := len(code) - 1; k >= 0; k-- {
			if !yield(k, code[k]) {
				return
			}
		}
	}
}
