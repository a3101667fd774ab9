package order

import (
	"slices"

	"swage/api"
	"swage/prog"
)

// Pack is the program without what is not needed, its registers given anew; or ErrProg, if the program may not be.
func Pack(p api.Prog) (api.Prog, api.Errno) {
	if _, e := prog.Check(p); e != api.OK {
		return api.Prog{}, e
	}
	l := livesOf(p)
	s := begin(p, l)
	q := api.Prog{Ins: p.Ins}
	q.Code = s.through(p.Code, l)
	q.Outs = s.given(p.Outs)
	q.Regs = registersOf(q)
	return q, api.OK
}

// seats keep, while a program is gone through, where the values stand.
type seats struct {
	of    []int // of each of the program's registers the one in which its value stands
	until []int // of each register that is given how long what stands there is asked
}

// begin is where the values of a program that may be stand ahead of its first instruction.
func begin(p api.Prog, l lives) *seats {
	s := &seats{of: make([]int, p.Regs), until: slices.Repeat([]int{nobody}, p.Regs)}
	for r := range s.of {
		s.of[r] = min(r, p.Ins)
	}
	copy(s.until, l.first) // where all registers are inputs the last one finds no place: there is no 0 that anybody asks
	return s
}

// through goes through the code, and answers what is needed of it, on the registers that are given.
func (s *seats) through(code []api.Instr, l lives) []api.Instr {
	var needed []api.Instr
instructions:
	for k, i := range code {
		if l.set[k] == nobody {
			continue
		}
		asked := s.given(prog.Asks(i))
		for to, until := range s.until {
			if until <= k { // what this instruction is the last one to ask makes room for what it sets
				needed = append(needed, moved(i, to, asked))
				s.of[i.To], s.until[to] = to, l.set[k]
				continue instructions
			}
		}
	}
	return needed
}

// given are the registers in which the values of these of the program's stand.
func (s *seats) given(registers []int) []int {
	given := make([]int, len(registers))
	for n, r := range registers {
		given[n] = s.of[r]
	}
	return given
}

// moved is an instruction, but setting the register to, and asking these.
func moved(i api.Instr, to int, asked []int) api.Instr {
	i.To, i.A = to, asked[0]
	if len(asked) == 2 { // else B must stay 0, whatever r0 became
		i.B = asked[1]
	}
	return i
}

// registersOf is how many registers a program must have for its inputs, and for all that it names.
func registersOf(p api.Prog) int {
	greatest := max(p.Ins-1, slices.Max(p.Outs))
	for _, i := range p.Code {
		greatest = max(greatest, i.To, slices.Max(prog.Asks(i)))
	}
	return greatest + 1
}
