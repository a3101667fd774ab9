package order_test

import (
	"slices"

	"swage/api"
)

// stretch is where a value stands: in a register, behind the instruction from (-1: from the beginning on), up to the instruction that sets the register anew (the number of all of them, if none does).
type stretch struct{ reg, from, to int }

// value is what is asked as one: where it stands, and who asks it, as the chapter's words say: instructions that are needed, and the number of all of them, if Outs do.
type value struct {
	stretches []stretch
	asked     []int
}

// from is behind which instruction a value begins.
func (v value) from() int { return v.stretches[0].from }

// last is the last one that asks a value; -1 of none.
func (v value) last() int {
	if len(v.asked) == 0 {
		return -1
	}
	return slices.Max(v.asked)
}

// stretchOf is where what stands in a register behind an instruction lasts.
func stretchOf(p api.Prog, reg, from int) stretch {
	for k := from + 1; k < len(p.Code); k++ {
		if p.Code[k].To == reg {
			return stretch{reg, from, k}
		}
	}
	return stretch{reg, from, len(p.Code)}
}

// neededOf tells of each instruction whether it is needed, by chapter 8's words: of each one those behind it are gone through, till one sets its register anew.
func neededOf(p api.Prog) []bool {
	needed := make([]bool, len(p.Code))
	for k := len(p.Code) - 1; k >= 0; k-- {
		s := stretchOf(p, p.Code[k].To, k)
		needed[k] = s.to == len(p.Code) && slices.Contains(p.Outs, s.reg)
		for j := k + 1; j <= s.to && j < len(p.Code); j++ {
			needed[k] = needed[k] || needed[j] && slices.Contains(asksOf(p.Code[j]), s.reg)
		}
	}
	return needed
}

// valuesOf are a program's values: the inputs', in order, the 0 of all other registers, and what the instructions set, in order.
func valuesOf(p api.Prog) []value {
	values := make([]value, p.Ins+1)
	for r := range p.Regs {
		v := &values[min(r, p.Ins)]
		v.stretches = append(v.stretches, stretchOf(p, r, -1))
	}
	for k, i := range p.Code {
		values = append(values, value{stretches: []stretch{stretchOf(p, i.To, k)}})
	}
	needed := neededOf(p)
	for n := range values {
		for _, s := range values[n].stretches {
			values[n].asked = append(values[n].asked, asking(p, needed, s)...)
		}
	}
	return values
}

// asking are those who ask what stands in one stretch.
func asking(p api.Prog, needed []bool, s stretch) []int {
	var l []int
	for k := s.from + 1; k <= s.to && k < len(p.Code); k++ {
		if needed[k] && slices.Contains(asksOf(p.Code[k]), s.reg) {
			l = append(l, k)
		}
	}
	if s.to == len(p.Code) && slices.Contains(p.Outs, s.reg) {
		l = append(l, len(p.Code))
	}
	return l
}

// met is the number of the value that is met in a register ahead of an instruction, or at the end.
func met(values []value, reg, k int) int {
	for n, v := range values {
		for _, s := range v.stretches {
			if s.reg == reg && s.from < k && k <= s.to {
				return n
			}
		}
	}
	return -1
}

// packOf is what the pass makes of a program that may be, by the chapter's words.
func packOf(p api.Prog) api.Prog {
	values := valuesOf(p)
	stands := slices.Repeat([]int{-1}, len(values)) // where a value stands; -1, where it does not
	for n, v := range values[:p.Ins+1] {
		if len(v.asked) > 0 {
			stands[n] = n
		}
	}
	q := api.Prog{Ins: p.Ins, Regs: p.Ins}
	for k, needed := range neededOf(p) {
		if !needed {
			continue
		}
		i := p.Code[k]
		i.A = stands[met(values, i.A, k)]
		if asksBoth(i.Op) {
			i.B = stands[met(values, i.B, k)]
		}
		for n, v := range values {
			if v.last() == k {
				stands[n] = -1
			}
		}
		i.To = 0
		for slices.Contains(stands, i.To) {
			i.To++
		}
		stands[p.Ins+1+k] = i.To
		q.Code = append(q.Code, i)
		q.Regs = max(q.Regs, i.To+1, i.A+1, i.B+1)
	}
	for _, r := range p.Outs {
		q.Outs = append(q.Outs, stands[met(values, r, len(p.Code))])
		q.Regs = max(q.Regs, q.Outs[len(q.Outs)-1]+1)
	}
	return q
}

// aliveOf is how many values a program needs at once, by the chapter's words: ahead of each instruction that is needed, and at the end, those are counted that have begun and are asked then or later.
func aliveOf(p api.Prog) int {
	values, most := valuesOf(p), 0
	for k, needed := range append(neededOf(p), true) {
		alive := 0
		for _, v := range values {
			if needed && len(v.stretches) > 0 && v.from() < k && v.last() >= k {
				alive++
			}
		}
		most = max(most, alive)
	}
	return most
}
