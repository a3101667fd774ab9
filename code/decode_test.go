package code_test

import (
	"slices"
	"testing"

	"swage/api"
	"swage/code"
)

// holdNone tells what is wrong, unless Decode refuses these bytes at this place, and answers the zero unit.
func holdNone(t *testing.T, name string, b []byte, at int) {
	t.Helper()
	if u, spot := code.Decode(b); !zero(u) || spot != (api.Spot{Err: api.ErrCode, At: at}) {
		t.Errorf("%s: Decode of %s: %s, %v, not at %d", name, tell(b), show(u), spot, at)
	}
}

// holdJudged tells what is wrong, unless Decode says of bytes what the judge does, and whether they are a unit's.
func holdJudged(t *testing.T, j *judge, b []byte) bool {
	t.Helper()
	at, none := j.place(b)
	if none {
		holdNone(t, "judged", b, at)
		return false
	}
	u, spot := code.Decode(b)
	if spot != (api.Spot{}) || code.May(u) != api.OK || !slices.Equal(bytesOf(u), b) {
		t.Errorf("Decode of %s: %s, %v", tell(b), show(u), spot)
	}
	return true
}

// P17.3: the chapter's examples.
func TestDecodeExamples(t *testing.T) {
	b := bytesOf(example())
	holdNone(t, "without the last byte", b[:28], 28)
	holdNone(t, "with one more", append(slices.Clone(b), 0), 29)
	b[4] = 9
	holdNone(t, "with a 9 as fifth byte", b, 4)
	holdNone(t, "no bytes", nil, 0)
	holdNone(t, "no bytes", []byte{}, 0)
	holdNone(t, "A N V 2", []byte{0x41, 0x4e, 0x56, 0x32}, 3)
}

// start are the first bytes of a unit without points, and others.
func start(l ...byte) []byte {
	return append([]byte{0x41, 0x4e, 0x56, 0x31, 1, 1, 0}, l...)
}

// holdRange tells what is wrong, unless behind these bytes just those from low to high can stand: one that can not is refused at its place, whatever follows; behind one that can others are missed.
func holdRange(t *testing.T, name string, ahead []byte, low, high byte) {
	t.Helper()
	holdOnly(t, name, ahead, func(c byte) bool { return low <= c && c <= high })
}

func holdOnly(t *testing.T, name string, ahead []byte, may func(c byte) bool) {
	t.Helper()
	holdNone(t, name, ahead, len(ahead))
	for c := range 256 {
		b := append(slices.Clone(ahead), byte(c))
		if may(byte(c)) {
			holdNone(t, name, b, len(b))
			continue
		}
		holdNone(t, name, b, len(ahead))
		holdNone(t, name, append(b, 1, 1, 0, 0, 1, 0), len(ahead))
		holdNone(t, name, append(b, slices.Repeat([]byte{byte(c)}, 40)...), len(ahead))
	}
}

// P17.3: what may stand in the head: the four bytes, K1, K2, how many points there are, their coordinates.
func TestHeadBytes(t *testing.T) {
	mark := []byte("ANV1")
	for k, c := range mark {
		holdRange(t, "the four bytes", mark[:k], c, c)
	}
	holdRange(t, "K1", mark, 1, 8)
	for k := range 8 {
		ahead := append(slices.Clone(mark), byte(k+1))
		holdRange(t, "K2", ahead, 1, 8)
		holdRange(t, "how many points", append(ahead, byte(8-k)), 0, 255)
	}
	coordinate := func(c byte) bool { return int(int8(c)) >= -16 && int(int8(c)) <= 16 }
	for n := 1; n <= 3; n++ {
		b := append(start()[:6], byte(n))
		for k := range 2 * n {
			holdOnly(t, "a coordinate", b, coordinate)
			b = append(b, []byte{240, 16, 0, 255, 1, 241}[k])
		}
		holdRange(t, "Ins behind points", b, 1, 128)
	}
}

// P17.3: what may stand in a program's head, in each of the three.
func TestProgramHeadBytes(t *testing.T) {
	for _, ahead := range [][]byte{start(), start(1, 1, 0, 0, 1, 0), start(1, 1, 0, 0, 1, 0, 2, 3, 0, 0, 2, 2, 1)} {
		with := func(l ...byte) []byte { return append(slices.Clone(ahead), l...) }
		holdRange(t, "Ins", ahead, 1, 128)
		for ins := 1; ins <= 128; ins++ {
			holdRange(t, "Regs", with(byte(ins)), byte(ins), 128)
		}
		holdRange(t, "how many instructions, first byte", with(3, 5), 0, 64)
		for high := range 64 {
			holdRange(t, "how many instructions, second byte", with(3, 5, byte(high)), 0, 255)
		}
		holdRange(t, "how many instructions, second byte", with(3, 5, 64), 0, 0)
		holdRange(t, "Op", with(3, 5, 0, 1), 1, 8)
		holdRange(t, "Op", with(3, 5, 1, 0), 1, 8)
		holdRange(t, "Op", with(3, 5, 64, 0), 1, 8)
		holdRange(t, "how many Outs", with(3, 5, 0, 0), 1, 128)
	}
}

// P17.3: what may stand in an instruction of each operation, whatever registers there are.
func TestInstructionBytes(t *testing.T) {
	for _, regs := range []byte{1, 2, 77, 127, 128} {
		for op := byte(move); op <= shr; op++ {
			for _, ahead := range [][]byte{start(1, regs, 0, 1, op), start(1, regs, 0, 2, 8, 0, 0, 0, 0, 64, op)} {
				with := func(l ...byte) []byte { return append(slices.Clone(ahead), l...) }
				holdRange(t, "To", ahead, 0, regs-1)
				holdRange(t, "A", with(0), 0, regs-1)
				holdRange(t, "A", with(regs-1), 0, regs-1)
				second := byte(0)
				if asksBoth(int(op)) {
					second = regs - 1
				}
				holdRange(t, "B", with(0, 0), 0, second)
				holdRange(t, "B", with(regs-1, regs-1), 0, second)
				holdConstant(t, with(regs-1, 0, second), op)
			}
		}
	}
}

// holdConstant tells what is wrong, unless behind these bytes just the constants of an operation can stand.
func holdConstant(t *testing.T, ahead []byte, op byte) {
	t.Helper()
	with := func(c byte) []byte { return append(slices.Clone(ahead), c) }
	switch op {
	case mul, div:
		holdOnly(t, "C, first byte", ahead, func(c byte) bool { return c <= 2 || c >= 0xfe })
		holdRange(t, "C, second byte", with(0), 1, 255)
		holdRange(t, "C, second byte", with(1), 0, 255)
		holdRange(t, "C, second byte", with(2), 0, 0)
		holdRange(t, "C, second byte", with(0xfe), 0, 255)
		holdRange(t, "C, second byte", with(0xff), 0, 255)
	case shl, shr:
		holdRange(t, "C, first byte", ahead, 0, 0)
		holdRange(t, "C, second byte", with(0), 1, 64)
	default:
		holdRange(t, "C, first byte", ahead, 0, 0)
		holdRange(t, "C, second byte", with(0), 0, 0)
	}
}

// P17.3: what may stand in the outs.
func TestOutBytes(t *testing.T) {
	for regs := 1; regs <= 128; regs++ {
		holdRange(t, "the first out", start(1, byte(regs), 0, 0, 2), 0, byte(regs-1))
		holdRange(t, "the second out", start(1, byte(regs), 0, 0, 2, byte(regs-1)), 0, byte(regs-1))
	}
	holdRange(t, "the last out of 128", append(start(128, 128, 0, 0, 128), slices.Repeat([]byte{127}, 127)...), 0, 127)
	holdRange(t, "behind 128 outs", append(start(128, 128, 0, 0, 128), slices.Repeat([]byte{127}, 128)...), 1, 128)
}

// P17.3: each byte of the check is told at its place, and a byte behind it.
func TestCheckBytes(t *testing.T) {
	for _, u := range some(60) {
		b := bytesOf(u)
		n := len(b)
		holdRange(t, "the check's first byte", b[:n-2], b[n-2], b[n-2])
		for c := range 256 {
			one, two := slices.Clone(b), slices.Clone(b)
			one[n-1], two[n-2] = byte(c), byte(c)
			if byte(c) != b[n-1] {
				holdNone(t, "the check's second byte", one, n-1)
			}
			if byte(c) != b[n-2] {
				holdNone(t, "the check's first byte", two, n-2)
				two[n-1]++
				holdNone(t, "both bytes of the check", two, n-2)
				holdNone(t, "the check, and one more", append(two, 0), n-2)
			}
			holdNone(t, "one more", append(slices.Clone(b), byte(c)), n)
			holdNone(t, "many more", append(slices.Clone(b), slices.Repeat([]byte{byte(c)}, 99)...), n)
		}
		holdNone(t, "twice", append(slices.Clone(b), b...), n)
	}
}

// P17.3: a check that says the sum, but not the rest of a division, is none.
func TestCheckWithoutDivision(t *testing.T) {
	tried := 0
	m := maker(9)
	u := example()
	for n := 0; n < 200000 && tried < 3; n++ {
		u.Points = make([]api.Point, 12)
		for k := range u.Points {
			u.Points[k] = api.Point{A: m.coordinate(), B: m.coordinate()}
		}
		b := bodyOf(u)
		sum := 0
		for k, c := range b {
			sum += (k + 1) * int(c)
		}
		if sum < rest || sum >= 65536 {
			continue
		}
		tried++
		b = append(b, byte(sum>>8), byte(sum))
		holdNone(t, "the sum alone", b, len(b)-2)
	}
	if tried == 0 {
		t.Error("no sum from 65521 to 65535")
	}
}

// P17.3: bytes that are cut short are told at their length, at every place.
func TestCutShort(t *testing.T) {
	for _, u := range some(160) {
		b := bytesOf(u)
		for n := range b {
			holdNone(t, "cut short", b[:n:n], n)
		}
	}
	for _, u := range long() {
		b := bytesOf(u)
		for n := 0; n < len(b); n += 1 + n%4999 {
			holdNone(t, "cut short", b[:n], n)
		}
	}
}

// P17.3: each byte in the place of each one is told where the judge tells it; where it may stand there, the rest of the bytes, or the check, is told.
func TestEveryByte(t *testing.T) {
	j := newJudge()
	here, later := 0, 0
	for _, u := range some(45) {
		b := bytesOf(u)
		if len(b) > 400 {
			continue
		}
		for at := range b {
			for c := range 256 {
				l := slices.Clone(b)
				l[at] = byte(c)
				if holdJudged(t, j, l) != (l[at] == b[at]) {
					t.Fatalf("%s with a %d at %d", tell(b), c, at)
				}
				if place, none := j.place(l); none && place == at {
					here++
				} else if none {
					later++
				}
			}
		}
	}
	if here < 100000 || later < 50000 {
		t.Errorf("%d told at their place, %d behind it", here, later)
	}
}

// P17.3: where several bytes are wrong the first one is told.
func TestSeveralWrong(t *testing.T) {
	j := newJudge()
	m := maker(171)
	for _, u := range some(3000) {
		b := bytesOf(u)
		l := slices.Clone(b)
		first := len(b)
		for range 2 + m.below(4) {
			at := m.below(len(b))
			for c := range 256 { // one that no unit has there, whatever follows
				one := append(slices.Clone(b[:at]), byte(c))
				if place, _ := j.place(one); place == at {
					l[at], first = byte(c), min(first, at)
					break
				}
			}
		}
		if first < len(b) {
			holdNone(t, "several", l, first)
			holdNone(t, "several, and one more", append(l, 0), first)
			holdNone(t, "several, cut short", l[:first+1], first)
			holdNone(t, "cut short ahead", l[:first], first)
		}
	}
}

// P17.3, P17.4: bytes of units, changed at random, left out and laid between, some with a mended check: what is told of them is what the judge tells; what is a unit's is encoded to the same bytes.
func TestChangedAtRandom(t *testing.T) {
	j := newJudge()
	m := maker(172)
	fine, none := 0, 0
	for n, u := range some(60000) {
		b := bodyOf(u)
		for range 1 + m.below(3) {
			at := m.below(len(b) + 1)
			switch {
			case at == len(b) || m.below(12) == 0:
				b = slices.Insert(b, at, byte(m.next()))
			case m.below(12) == 0:
				b = slices.Delete(b, at, at+1)
			case m.below(2) == 0:
				b[at] = byte(m.next())
			default:
				b[at] = byte(m.one(0, 1, 2, 5, 8, int(b[at])+1, int(b[at])-1))
			}
			if len(b) == 0 {
				break
			}
		}
		if n%4 > 0 {
			b = sealed(b)
		}
		if holdJudged(t, j, b) {
			fine++
		} else {
			none++
		}
	}
	if fine < 5000 || none < 10000 {
		t.Errorf("%d units, %d that are none", fine, none)
	}
}

// P17.3, R1: bytes drawn at random, from the beginning on or behind the first ones of a unit.
func TestAtRandom(t *testing.T) {
	j := newJudge()
	m := maker(173)
	for n := range 100000 {
		b := make([]byte, m.below(60))
		for k := range b {
			b[k] = byte(m.one(0, 0, 1, 1, 2, 3, 5, int(m.next()), int(m.next())))
		}
		if n%5 > 0 {
			b = append(start()[:4+n%4], b...)
		}
		holdJudged(t, j, b)
	}
}

// P17.3, R1: many bytes that are none of a unit's, and some that tell of more than there is.
func TestManyBytes(t *testing.T) {
	j := newJudge()
	for c := range 256 {
		b := slices.Repeat([]byte{byte(c)}, 300000)
		holdJudged(t, j, b)
		for n := 4; n < 8; n++ {
			holdJudged(t, j, append(start()[:n:n], b...))
			holdJudged(t, j, append(start()[:n:n], b[:100]...))
		}
	}
	full := bodyOf(long()[1])
	for n := 1; n < 40; n++ {
		holdNone(t, "the last bytes lack", full[:len(full)-n], len(full)-n)
	}
	holdNone(t, "no check", append(full, 0, 0), len(full))
}
