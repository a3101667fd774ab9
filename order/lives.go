package order

import (
	"slices"

	"swage/api"
	"swage/prog"
)

// nobody stands where the last one that asks a value would be told, of a value that is not asked.
const nobody = -1

// lives tell of each value how long it is asked: the number of the last instruction that asks it; how many instructions there are, if Outs do; else nobody.
type lives struct {
	first []int // of the inputs, and then of the 0 that stands in all other registers
	set   []int // of what each instruction sets; nobody, if the instruction is not needed
}

// livesOf finds the lives of a program that may be from behind, where whoever asks a value is met ahead of whoever sets it.
func livesOf(p api.Prog) lives {
	l := lives{first: slices.Repeat([]int{nobody}, p.Ins+1), set: make([]int, len(p.Code))}
	until := slices.Repeat([]int{nobody}, p.Regs) // of each register how long what stands there is asked
	for _, r := range p.Outs {
		until[r] = len(p.Code)
	}
	for k, i := range prog.Back(p) {
		l.set[k] = until[i.To]
		if until[i.To] == nobody {
			continue
		}
		until[i.To] = nobody // ahead of what it asks: it may ask the register that it sets
		for _, r := range prog.Asks(i) {
			until[r] = max(until[r], k)
		}
	}
	for r, last := range until {
		n := min(r, p.Ins) // the 0 of all registers behind the inputs is one value
		l.first[n] = max(l.first[n], last)
	}
	return l
}

// Alive is how many values a program needs at once; or ErrProg, if the program may not be.
func Alive(p api.Prog) (int, api.Errno) {
	if _, e := prog.Check(p); e != api.OK {
		return 0, e
	}
	l := livesOf(p)
	alive := 0
	ending := make([]int, len(p.Code)+1) // how many of the values that are alive are asked there for the last time
	enter := func(last int) {
		if last != nobody {
			alive++
			ending[last]++
		}
	}
	for _, last := range l.first {
		enter(last)
	}
	most := alive
	for k, last := range l.set {
		alive -= ending[k]
		enter(last)
		most = max(most, alive)
	}
	return most, api.OK
}
