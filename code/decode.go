package code

import "swage/api"

// Decode is the unit whose bytes these are, or ErrCode, and the place of the first byte with which the bytes of no unit go on: their number, if they end too early.
func Decode(b []byte) (api.Unit, api.Spot) {
	r := reader{bytes: b}
	var u api.Unit
	if !r.head(&u) {
		goto none
	}
	for _, p := range programs(&u) {
		if !r.program(p) {
			goto none
		}
	}
	if !r.check() || r.at < len(b) {
		goto none
	}
	return u, api.Spot{}
none:
	return api.Unit{}, api.Spot{Err: api.ErrCode, At: r.at}
}

// reader takes bytes one by one. Each of its calls tells whether what it takes was there, and else stops at the first byte that no unit has there.
type reader struct {
	bytes []byte
	at    int // how many were taken, which is the place of the next one
}

// next takes a byte that says a number from least to most, and puts the number there. A byte that is above most as it stands can only say a number below 0.
func (r *reader) next(to *int, least, most int) bool {
	if r.at == len(r.bytes) {
		return false
	}
	n := int(r.bytes[r.at])
	if n > most {
		n -= 1 << 8
	}
	if n < least {
		return false
	}
	*to = n
	r.at++
	return true
}

// pair takes two bytes that say a number from least to most: a high one with which some low one says such a number, and then a low one that does. Where there are numbers below 0 it takes none that says 0: so it is with constants.
func (r *reader) pair(to *int, least, most int) bool {
	var high, low int
	if !r.next(&high, least>>8, most>>8) {
		return false
	}
	if high == 0 && least < 0 {
		least = 1
	}
	if !r.next(&low, max(least-high<<8, 0), most-high<<8) {
		return false
	}
	*to = high<<8 | low
	return true
}

// just takes bytes that are these.
func (r *reader) just(l ...byte) bool {
	for _, c := range l {
		var n int
		if !r.next(&n, int(c), int(c)) {
			return false
		}
	}
	return true
}

// head takes what stands ahead of the programs.
func (r *reader) head(u *api.Unit) bool {
	var points int
	if !r.just([]byte(mark)...) || !r.next(&u.K1, 1, api.MaxParts) || !r.next(&u.K2, 1, api.MaxParts) || !r.next(&points, 0, mostPoints) {
		return false
	}
	for range points {
		var p api.Point
		if !r.next(&p.A, -api.MaxPoint, api.MaxPoint) || !r.next(&p.B, -api.MaxPoint, api.MaxPoint) {
			return false
		}
		u.Points = append(u.Points, p)
	}
	return true
}

// program takes a program that may be.
func (r *reader) program(p *api.Prog) bool {
	var count int
	if !r.next(&p.Ins, 1, api.MaxRegs) || !r.next(&p.Regs, p.Ins, api.MaxRegs) || !r.pair(&count, 0, api.MaxCode) {
		return false
	}
	last := p.Regs - 1
	for range count {
		var i api.Instr
		if !r.instr(&i, last) {
			return false
		}
		p.Code = append(p.Code, i)
	}
	if !r.next(&count, 1, api.MaxRegs) {
		return false
	}
	for range count {
		var out int
		if !r.next(&out, 0, last) {
			return false
		}
		p.Outs = append(p.Outs, out)
	}
	return true
}

// instr takes an instruction that may be in a program whose last register is this one.
func (r *reader) instr(i *api.Instr, last int) bool {
	if !r.next(&i.Op, api.OpMove, api.OpShr) {
		return false
	}
	second, least, most := bounds(i.Op, last)
	return r.next(&i.To, 0, last) && r.next(&i.A, 0, last) && r.next(&i.B, 0, second) && r.pair(&i.C, least, most)
}

// bounds are the greatest B of an operation, where the last register is this one, and its least and its greatest constant.
func bounds(op, last int) (int, int, int) {
	switch op {
	case api.OpAdd, api.OpSub:
		return last, 0, 0
	case api.OpMul, api.OpDiv:
		return 0, -api.MaxConst, api.MaxConst
	case api.OpShl, api.OpShr:
		return 0, 1, api.MaxShift
	}
	return 0, 0, 0
}

// check takes the check of all bytes that were taken.
func (r *reader) check() bool {
	return r.just(putPair(nil, check(r.bytes[:r.at]))...)
}
