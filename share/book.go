package share

import (
	"iter"

	"swage/api"
	"swage/prog"
)

// none is where a first holder would stand, of a value that no register holds.
const none = -1

// key is what two instructions have in common that reckon the same: the operation, the values that A and B hold, the constant.
type key struct {
	op, a, b, c int
}

// entry is a value, and the number of the first instruction that reckoned it.
type entry struct {
	value, first int
}

// book keeps, while a program is gone through, the value that each register holds, and those that stand behind the keys that came up. The values are numbered as they come up: the inputs', then the one of all other registers, then those behind keys.
type book struct {
	held  []int
	known map[key]entry
	next  int
}

// begin is the book of a program that may be, ahead of its first instruction.
func begin(p api.Prog) *book {
	held := make([]int, p.Regs)
	for r := range held {
		held[r] = min(r, p.Ins)
	}
	return &book{held: held, known: map[key]entry{}, next: p.Ins + 1}
}

// reckon is what the instruction i, of the number k, reckons, and the number of the first one with its key: its own, if it has none. A key that is new is kept; the registers stay.
func (b *book) reckon(k int, i api.Instr) entry {
	if i.Op == api.OpMove {
		return entry{b.held[i.A], k}
	}
	by := b.keyOf(i)
	found, again := b.known[by]
	if !again {
		found = entry{b.next, k}
		b.known[by] = found
		b.next++
	}
	return found
}

// keyOf is the key of an instruction that is no OpMove.
func (b *book) keyOf(i api.Instr) key {
	by := key{op: i.Op, a: b.held[i.A], c: i.C}
	if asksTwo(i) {
		by.b = b.held[i.B]
	}
	if i.Op == api.OpAdd { // a sum is the same, whichever stands first
		by.a, by.b = min(by.a, by.b), max(by.a, by.b)
	}
	return by
}

// shared is what becomes of an instruction that sets a register to v, which that register does not hold.
func (b *book) shared(i api.Instr, v int) api.Instr {
	if holder := b.firstHolders(v)[0]; holder != none {
		return api.Instr{Op: api.OpMove, To: i.To, A: holder}
	}
	asked := b.firstHolders(b.valuesOf(prog.Asks(i)...)...)
	i.A = asked[0]
	if asksTwo(i) { // else B must stay 0, whatever r0 holds
		i.B = asked[1]
	}
	return i
}

// asksTwo tells whether an instruction asks B beside A.
func asksTwo(i api.Instr) bool {
	return len(prog.Asks(i)) == 2
}

// valuesOf are the values that registers hold.
func (b *book) valuesOf(registers ...int) []int {
	values := make([]int, len(registers))
	for n, r := range registers {
		values[n] = b.held[r]
	}
	return values
}

// firstHolders are, of each value, the register with the least number that holds it, or none.
func (b *book) firstHolders(values ...int) []int {
	holders := make([]int, len(values))
values:
	for n, v := range values {
		for r, held := range b.held {
			if held == v {
				holders[n] = r
				continue values
			}
		}
		holders[n] = none
	}
	return holders
}

// through goes through a program that may be, and tells of each instruction its number, the value that it reckons, and the first one with its key.
func through(p api.Prog) iter.Seq2[int, entry] {
	return func(yield func(int, entry) bool) {
		b := begin(p)
		for k, i := range p.Code {
			found := b.reckon(k, i)
			b.held[i.To] = found.value
			if !yield(k, found) {
				return
			}
		}
	}
}
