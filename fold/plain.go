package fold

import (
	"math/bits"

	"swage/api"
)

// plain is the plain form of an instruction that may be.
func plain(i api.Instr) api.Instr {
	switch i.Op {
	case api.OpMul:
		return plainFactor(i, api.OpShl)
	case api.OpDiv:
		return plainFactor(i, api.OpShr)
	case api.OpAdd:
		if i.A == i.B {
			return instead(i, api.OpShl, 1)
		}
	}
	return i
}

// plainFactor is the plain form of one that multiplies, or divides, by its constant; shift is what does the same by powers of two.
func plainFactor(i api.Instr, shift int) api.Instr {
	switch {
	case i.C == 1:
		return instead(i, api.OpMove, 0)
	case i.C == -1:
		return instead(i, api.OpNeg, 0)
	case i.C > 1 && bits.OnesCount(uint(i.C)) == 1:
		return instead(i, shift, bits.TrailingZeros(uint(i.C)))
	}
	return i
}

// instead is a new instruction that asks and sets what i does.
func instead(i api.Instr, op, c int) api.Instr {
	return api.Instr{Op: op, To: i.To, A: i.A, C: c}
}
