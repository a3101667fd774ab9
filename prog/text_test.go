package prog_test

import (
	"regexp"
	"strconv"
	"strings"
	"testing"

	"swage/api"
	"swage/prog"
)

// taken asks that a text is read as this program, and told again.
func taken(t *testing.T, text string, want api.Prog) {
	t.Helper()
	p, spot := prog.Read(text)
	if spot != (api.Spot{}) || !alike(p, want) || !prog.Same(p, want) {
		t.Errorf("Read of %.200q: %s, %v, not %s", text, show(p), spot, show(want))
	}
	if s, e := prog.Text(want); s != text || e != api.OK {
		t.Errorf("Text of %s: %.200q, %v, not %.200q", show(want), s, e, text)
	}
}

// refused asks that a text is refused at a place, and that no program is answered beside it.
func refused(t *testing.T, text string, e api.Errno, at int) {
	t.Helper()
	if p, spot := prog.Read(text); !zero(p) || spot != (api.Spot{Err: e, At: at}) {
		t.Errorf("Read of %d bytes, %.90q: %s, %v, not %v at %d", len(text), text, show(p), spot, e, at)
	}
}

// The forms of the lines, each with its byte 10.
var (
	headForm = regexp.MustCompile(`^in (0|[1-9][0-9]{0,8}) regs (0|[1-9][0-9]{0,8})\n$`)
	outForm  = regexp.MustCompile(`^out( r(0|[1-9][0-9]{0,8}))*\n$`)
	codeForm = regexp.MustCompile(`^r(0|[1-9][0-9]{0,8}) = (-?)r(0|[1-9][0-9]{0,8})(?: ([-+]) r(0|[1-9][0-9]{0,8})| (\*|/|<<|>>) (0|-?[1-9][0-9]{0,8}))?\n$`)
)

// digits are the numbers of these words, an r ahead left out; of an empty one 0.
func digits(words ...string) []int {
	var l []int
	for _, w := range words {
		n, _ := strconv.Atoi(strings.TrimPrefix(w, "r"))
		l = append(l, n)
	}
	return l
}

// instruction is what a line says, and whether it is such a line.
func instruction(line string) (api.Instr, bool) {
	f := codeForm.FindStringSubmatch(line)
	if f == nil || f[2] != "" && f[4]+f[6] != "" {
		return api.Instr{}, false
	}
	op := map[string]int{"": move, "+": add, "-": sub, "*": mul, "/": div, "<<": shl, ">>": shr}[f[4]+f[6]]
	if f[2] != "" {
		op = neg
	}
	n := digits(f[1], f[3], f[5], f[7])
	return in(op, n[0], n[1], n[2], n[3]), true
}

// heldAgainst asks of a text of at most MaxText bytes what the chapter's words say of it, line by line.
func heldAgainst(t *testing.T, text string, j judge) {
	t.Helper()
	var p api.Prog
	var begins []int
	at, ended := 0, false
	for at < len(text) {
		line := text[at:]
		if n := strings.IndexByte(line, 10); n >= 0 {
			line = line[:n+1]
		}
		head := headForm.FindStringSubmatch(line)
		i, coded := instruction(line)
		begins = append(begins, at)
		switch {
		case at == 0 && head != nil:
			n := digits(head[1:]...)
			p.Ins, p.Regs = n[0], n[1]
		case at > 0 && !ended && coded:
			p.Code = append(p.Code, i)
		case at > 0 && !ended && outForm.MatchString(line):
			p.Outs = digits(strings.Fields(line)[1:]...)
			ended = true
		default:
			refused(t, text, api.ErrText, at)
			return
		}
		at += len(line)
	}
	if !ended {
		refused(t, text, api.ErrText, len(text))
		return
	}
	if k, e := j.verdict(p); e != api.OK {
		refused(t, text, e, begins[k+1])
		return
	}
	taken(t, text, p)
}

// P8.2: each operation's line, at its edges.
func TestLines(t *testing.T) {
	for line, i := range map[string]api.Instr{
		"r0 = r0": in(move, 0, 0, 0, 0), "r2 = r1": in(move, 2, 1, 0, 0), "r127 = r126": in(move, 127, 126, 0, 0), "r0 = -r0": in(neg, 0, 0, 0, 0), "r10 = -r100": in(neg, 10, 100, 0, 0),
		"r1 = r2 + r3": in(add, 1, 2, 3, 0), "r127 = r127 + r127": in(add, 127, 127, 127, 0), "r0 = r0 + r0": in(add, 0, 0, 0, 0), "r1 = r2 - r3": in(sub, 1, 2, 3, 0), "r3 = r2 - r0": in(sub, 3, 2, 0, 0),
		"r1 = r2 * 3": in(mul, 1, 2, 0, 3), "r1 = r2 * -3": in(mul, 1, 2, 0, -3), "r1 = r2 * 1": in(mul, 1, 2, 0, 1), "r1 = r2 * -1": in(mul, 1, 2, 0, -1), "r1 = r2 * 512": in(mul, 1, 2, 0, 512), "r1 = r2 * -512": in(mul, 1, 2, 0, -512),
		"r1 = r2 / 3": in(div, 1, 2, 0, 3), "r1 = r2 / -3": in(div, 1, 2, 0, -3), "r1 = r2 / 512": in(div, 1, 2, 0, 512), "r1 = r2 / -512": in(div, 1, 2, 0, -512), "r1 = r2 / 10": in(div, 1, 2, 0, 10),
		"r1 = r2 << 1": in(shl, 1, 2, 0, 1), "r1 = r2 << 64": in(shl, 1, 2, 0, 64), "r1 = r2 >> 1": in(shr, 1, 2, 0, 1), "r1 = r2 >> 64": in(shr, 1, 2, 0, 64), "r9 = r99 >> 20": in(shr, 9, 99, 0, 20),
	} {
		p := api.Prog{Ins: 1, Regs: 128, Code: []api.Instr{i}, Outs: []int{127, 0, 10, 127}}
		taken(t, "in 1 regs 128\n"+line+"\nout r127 r0 r10 r127\n", p)
	}
}

// P8.2: the chapter's examples, and others written out.
func TestTexts(t *testing.T) {
	taken(t, "in 2 regs 3\nr2 = r0 - r1\nr2 = r2 / 2\nout r2 r0\n", example())
	taken(t, "in 1 regs 1\nout r0\n", plain(1, 1, 0, 1))
	taken(t, "in 1 regs 1\nr0 = r0\nout r0 r0\n", plain(1, 1, 1, 2))
	taken(t, "in 128 regs 128\nout"+strings.Repeat(" r0", 128)+"\n", plain(128, 128, 0, 128))
	refused(t, "in 1 regs 1\nout r0 x\n", api.ErrText, 12)
	refused(t, "in 1 regs 1\n", api.ErrText, 12)
	refused(t, "in 1 regs 1\nr0 = r1\nout r0\n", api.ErrProg, 12)
	refused(t, "in 2 regs 1\nout r0\n", api.ErrProg, 0)
}

// P8.2, P8.7: programs of all kinds, told and read again.
func TestTextAndBack(t *testing.T) {
	for _, p := range some(400) {
		taken(t, written(p), p)
	}
}

// P8.2: texts longer than those that are read are told all the same, up to the longest.
func TestTextLong(t *testing.T) {
	for _, n := range []int{8000, mostCode - 1, mostCode} {
		p := plain(1, 128, n, 128)
		for k := range p.Code {
			p.Code[k] = in(mul, 127, k%128, 0, -512)
		}
		text, e := prog.Text(p)
		if text != written(p) || e != api.OK || len(text) <= mostText {
			t.Errorf("Text of %d instructions: %d bytes, %v", n, len(text), e)
		}
		refused(t, text, api.ErrLong, mostText)
	}
}

// P8.2: lines that lack, stand too many, have no byte 10 behind them, or stand in a wrong place.
func TestReadLines(t *testing.T) {
	for _, x := range []struct {
		text string
		at   int
	}{
		{"", 0}, {"\n", 0}, {"\n\n", 0}, {" ", 0}, {"in 1 regs 1", 0}, {"in 1 regs 1\n", 12}, {"in 1 regs 1\n\n", 12}, {"in 1 regs 1\nr0 = r0", 12}, {"in 1 regs 1\nr0 = r0\n", 20}, {"in 1 regs 1\nr0 = r0\nr0 = -r0\n", 29}, {"in 1 regs 1\nr0 = r0\n\n", 20},
		{"in 1 regs 1\nout r0", 12}, {"in 1 regs 1\nr0 = r0\nout r0", 20}, {"in 1 regs 1\nout", 12}, {"in 1 regs 1\nou", 12}, {"in 1 regs 1\no", 12},
		{"in 1 regs 1\nout r0\n\n", 19}, {"in 1 regs 1\nout r0\n ", 19}, {"in 1 regs 1\nout r0\nx", 19}, {"in 1 regs 1\nout r0\nx\n", 19}, {"in 1 regs 1\nout r0\nout r0\n", 19}, {"in 1 regs 1\nout r0\nout r0", 19}, {"in 1 regs 1\nout r0\nr0 = r0\n", 19}, {"in 1 regs 1\nout r0\nr0 = r0\nout r0\n", 19}, {"in 1 regs 1\nout r0\nin 1 regs 1\nout r0\n", 19}, {"in 1 regs 1\nout r0\n\x00", 19},
		{"out r0\n", 0}, {"r0 = r0\nout r0\n", 0}, {"out r0\nin 1 regs 1\n", 0}, {"\nin 1 regs 1\nout r0\n", 0}, {"in 1 regs 1\nin 1 regs 1\nout r0\n", 12}, {"in 1 regs 1\n\nout r0\n", 12}, {"in 1 regs 1\nr0 = r0\n\nr0 = r0\nout r0\n", 20}, {"in 1 regs 1\nr0 = r0\nin 1 regs 1\nout r0\n", 20},
		{"in 1 regs 1\r\nout r0\r\n", 0}, {"in 1 regs 1\nout r0\r\n", 12}, {"in 1 regs 1\rout r0\n", 0}, {"in 1 regs 1\nr0 = r0\r\nout r0\n", 12},
	} {
		refused(t, x.text, api.ErrText, x.at)
	}
}

// P8.2: a line that is none, at the beginning, in the middle and at the end, ahead of whatever else may not be.
func TestReadWrongLines(t *testing.T) {
	for _, bad := range []string{
		"", " ", "x", "r", "r0", "r0 =", "r0 = ", "r0 = r", "r0 =r0", "r0= r0", "r0=r0", " r0 = r0", "r0 = r0 ", "r0  = r0", "r0 =  r0", "r0\t= r0", "r0 = r0;", "R0 = r0", "r0 = R0", "r0 == r0", "r0 := r0", "0 = r0", "r0 = 0", "r0 = 5", "= r0", "r = r0", "r0 r0 = r0", "r0 = r0 = r0", "r0 = r0 r0", "r0 = x0", "rr0 = r0", "r0 = rr0",
		"r0 = - r0", "r0 = --r0", "r0 = +r0", "r0 = -0", "r0 = -r", "-r0 = r0", "r0 = -r0 + r0", "r0 = -r0 - r0", "r0 = -r0 * 2", "r0 = -r0 << 2", "r0 = r0 -", "r0 = r0 - ", "r0 = r0 -r0", "r0 = r0- r0", "r0 = r0-r0", "r0 = r0 - -r0", "r0 = r0 + -r0", "r0 = r0 + 1", "r0 = r0 - 1", "r0 = r0 + r0 + r0", "r0 = r0 + r0 r0", "r0 = r0 + r0 ", "r0 = r0  + r0", "r0 = r0 +  r0",
		"r0 = r0 * r0", "r0 = r0 / r0", "r0 = r0 << r0", "r0 = r0 >> r0", "r0 = r0 * ", "r0 = r0 *", "r0 = r0 * x", "r0 = r0 * +1", "r0 = r0 * - 1", "r0 = r0 * --1", "r0 = r0 * -", "r0 = r0 * 1 ", "r0 = r0 * 1x", "r0 = r0 * 0x1", "r0 = r0 * 1_0", "r0 = r0 * 1e1", "r0 = r0 * 1.0", "r0 = r0 * ١", "r0 = r0 * -0", "r0 = r0 / -0", "r0 = r0 << -0", "r0 = r0 >> -0", "r0 = r0 * 00", "r0 = r0 * 01", "r0 = r0 * -01", "r0 = r0 * 007", "r0 = r0 * 1000000000", "r0 = r0 * -1000000000", "r0 = r0 / 4294967297", "r0 = r0 << 18446744073709551617", "r0 = r0 * -9223372036854775808", "r0 = r0 * 99999999999999999999",
		"r0 = r0 < 1", "r0 = r0 > 1", "r0 = r0 <<< 1", "r0 = r0 <<1", "r0 = r0<< 1", "r0 = r0 <> 1", "r0 = r0 % 2", "r0 = r0 ** 2", "r0 = r0 // 2", "r0 = r0 ^ 2", "r0 = r0  2", "r0 = r0 = 2", "r0 = 2 * r0", "r0 = r0 * 2 * 2",
		"r00 = r0", "r01 = r0", "r0 = r00", "r0 = r01", "r0 = r0 + r00", "r-0 = r0", "r-1 = r0", "r0 = r-1", "r0 = r+1", "r+0 = r0", "r0 = r0 + r-1", "r1000000000 = r0", "r0 = r1000000000", "r0 = -r1000000000", "r0 = r0 + r1000000000", "r0 = r0 - r4294967296", "r0 = r0 * 1 1", "r0 = r0\x00", "\xffr0 = r0", "r0 = r0\v", "in 1 regs 1", "out r0", "out", "outr0", "out r0 out",
	} {
		for _, around := range [][2]string{{"in 1 regs 1\n", "out r0\n"}, {"in 1 regs 1\nr0 = r0\n", "r0 = -r0\nout r0\n"}, {"in 1 regs 1\nr0 = r7 * 0\nr0 = -r0\n", "out r9\n"}, {"in 0 regs 999999999\n", "x\nout r0\n"}, {"in 9 regs 1\n", ""}} {
			at := len(around[0])
			if strings.HasPrefix(bad, "out") && outForm.MatchString(bad+"\n") { // it ends the text there: so what is behind it is wrong
				if around[1] == "" {
					continue
				}
				at += len(bad) + 1
			}
			refused(t, around[0]+bad+"\n"+around[1], api.ErrText, at)
		}
	}
}

// P8.2: the first line.
func TestReadHead(t *testing.T) {
	for _, bad := range []string{
		"in", "in ", "in 1", "in 1 ", "in 1 regs", "in 1 regs ", "in  1 regs 1", "in 1  regs 1", "in 1 regs  1", " in 1 regs 1", "in 1 regs 1 ", "in1 regs 1", "in 1regs 1", "in 1 regs1", "in\t1 regs 1", "In 1 regs 1", "in 1 Regs 1", "in 1 reg 1", "ins 1 regs 1", "in x regs 1", "in 1 regs x", "in regs 1", "regs 1 in 1", "in 1 regs 1 out", "in 1 regs 1 1", "in r1 regs 1", "in 1 regs r1",
		"in 01 regs 1", "in 1 regs 01", "in 00 regs 1", "in 1 regs 00", "in -1 regs 1", "in 1 regs -1", "in -0 regs 1", "in 1 regs -0", "in +1 regs 1", "in 1 regs +1", "in 1000000000 regs 1", "in 1 regs 1000000000", "in 4294967297 regs 1", "in 1 regs 18446744073709551617", "in 0000000001 regs 1", "in 000000001 regs 1", "in 1. regs 1", "in 1 regs 1\x00", "\xef\xbb\xbfin 1 regs 1",
	} {
		refused(t, bad+"\nout r0\n", api.ErrText, 0)
		refused(t, bad+"\nr0 = r9\nx\n", api.ErrText, 0)
	}
	for _, bad := range []string{"in 0 regs 1", "in 1 regs 0", "in 0 regs 0", "in 2 regs 1", "in 1 regs 129", "in 129 regs 129", "in 128 regs 129", "in 129 regs 128", "in 999999999 regs 1", "in 1 regs 999999999", "in 999999999 regs 999999999", "in 100000000 regs 128"} {
		refused(t, bad+"\nout r0\n", api.ErrProg, 0)
		refused(t, bad+"\nr0 = r500 * 0\nout r0\n", api.ErrProg, 0)
		refused(t, bad+"\nr0 = r0\nout x\n", api.ErrText, len(bad)+9)
		refused(t, bad+"\nr0 = r0\n", api.ErrText, len(bad)+9)
	}
	for n := 1; n <= mostRegs; n++ {
		taken(t, "in "+strconv.Itoa(n)+" regs 128\nout r0\n", plain(n, 128, 0, 1))
		taken(t, "in 1 regs "+strconv.Itoa(n)+"\nout r0\n", plain(1, n, 0, 1))
	}
}

// P8.2: the last line.
func TestReadOuts(t *testing.T) {
	for _, bad := range []string{"out ", "out  r0", "out r0 ", "out r0  r0", "outr0", "out r", "out 0", "out x", "out r0 x", "out r0 r", "out r0,r0", "out r0, r0", "out\tr0", "Out r0", "out -r0", "out r-0", "out r-1", "out r+0", "out r00", "out r01", "out r1000000000", "out r4294967296", "out R0", " out r0", "outs r0", "out out", "out r0 = r0", "out r0 + r0", "ou", "out\x00", "out r0\r"} {
		refused(t, "in 1 regs 2\n"+bad+"\n", api.ErrText, 12)
		refused(t, "in 1 regs 2\nr0 = r5\n"+bad+"\n", api.ErrText, 20)
		refused(t, "in 7 regs 2\n"+bad+"\n", api.ErrText, 12)
	}
	for _, bad := range []string{"out", "out r2", "out r0 r2", "out r2 r0", "out r128", "out r999999999", "out r100000000", "out" + strings.Repeat(" r0", 129), "out" + strings.Repeat(" r1", 9999)} {
		refused(t, "in 1 regs 2\n"+bad+"\n", api.ErrProg, 0)
		refused(t, "in 1 regs 2\nr0 = r9\n"+bad+"\n", api.ErrProg, 0)
	}
	taken(t, "in 1 regs 2\nout r1 r0 r1 r1\n", api.Prog{Ins: 1, Regs: 2, Outs: []int{1, 0, 1, 1}})
}

// P8.2: instructions that may not be, with the place of the first one's line, at the beginning, in the middle, at the end.
func TestReadMayNotBe(t *testing.T) {
	for _, bad := range []string{
		"r2 = r0", "r0 = r2", "r0 = -r2", "r2 = -r0", "r0 = r2 + r0", "r0 = r0 + r2", "r2 = r0 + r0", "r0 = r2 - r0", "r0 = r0 - r2", "r0 = r2 * 1", "r2 = r0 / 1", "r999999999 = r0", "r0 = r999999999", "r0 = r0 + r999999999", "r128 = r0",
		"r0 = r0 * 0", "r0 = r0 / 0", "r0 = r0 << 0", "r0 = r0 >> 0", "r0 = r0 * 513", "r0 = r0 * -513", "r0 = r0 / 513", "r0 = r0 / -513", "r0 = r0 << 65", "r0 = r0 >> 65", "r0 = r0 << -1", "r0 = r0 >> -1", "r0 = r0 << -64", "r0 = r0 >> 512", "r0 = r0 * 999999999", "r0 = r0 * -999999999", "r0 = r0 / 100000000", "r0 = r0 << 999999999", "r0 = r0 >> -999999999",
	} {
		refused(t, "in 1 regs 2\n"+bad+"\nout r0\n", api.ErrProg, 12)
		refused(t, "in 1 regs 2\n"+bad+"\nr0 = r0\nout r0\n", api.ErrProg, 12)
		refused(t, "in 1 regs 2\nr1 = r0 * -512\n"+bad+"\nr0 = r1\nout r0\n", api.ErrProg, 27)
		refused(t, "in 1 regs 2\nr1 = r0\nr0 = -r1\n"+bad+"\nout r0\n", api.ErrProg, 29)
		refused(t, "in 1 regs 2\nr1 = r0\n"+bad+"\nr7 = r7\n"+bad+"\nout r0\n", api.ErrProg, 20)
		refused(t, "in 1 regs 2\n"+bad+"\nr0 = r0\nx\nout r0\n", api.ErrText, 21+len(bad))
		refused(t, "in 1 regs 2\n"+bad+"\nout r0 \n", api.ErrText, 13+len(bad))
		refused(t, "in 1 regs 2\n"+bad+"\n", api.ErrText, 13+len(bad))
		refused(t, "in 1 regs 2\n"+bad+"\nout r2\n", api.ErrProg, 0)
		refused(t, "in 3 regs 2\n"+bad+"\nout r0\n", api.ErrProg, 0)
	}
}

// P8.2: numbers of nine digits are such, of ten none, wherever they stand.
func TestReadDigits(t *testing.T) {
	for _, x := range []struct{ ahead, behind string }{{"in ", " regs 2\nout r0\n"}, {"in 1 regs ", "\nout r0\n"}, {"in 1 regs 2\nr", " = r0\nout r0\n"}, {"in 1 regs 2\nr0 = r", "\nout r0\n"}, {"in 1 regs 2\nr0 = -r", "\nout r0\n"}, {"in 1 regs 2\nr0 = r0 + r", "\nout r0\n"}, {"in 1 regs 2\nr0 = r", " - r0\nout r0\n"}, {"in 1 regs 2\nr0 = r0 * ", "\nout r0\n"}, {"in 1 regs 2\nr0 = r0 / -", "\nout r0\n"}, {"in 1 regs 2\nr0 = r0 << ", "\nout r0\n"}, {"in 1 regs 2\nr0 = r0 >> -", "\nout r0\n"}, {"in 1 regs 2\nr0 = r0\nout r", "\n"}} {
		at := strings.LastIndexByte(x.ahead, 10) + 1
		program := at
		if strings.Contains(x.ahead, "out") {
			program = 0
		}
		for _, n := range []string{"100000000", "999999999", "123456789"} {
			refused(t, x.ahead+n+x.behind, api.ErrProg, program)
		}
		for _, n := range []string{"1000000000", "9999999999", "0123456789", "012345678", "00", "1234567890123456789", "12345678901234567890", strings.Repeat("9", 999), "", "1x", "１"} {
			refused(t, x.ahead+n+x.behind, api.ErrText, at)
		}
	}
}

// filled is a text of just so many bytes, with so many instructions of its own that it is a program's.
func filled(size int, head, last string) string {
	rest := size - len(head) - len(last)
	nine := rest % 8
	return head + strings.Repeat("r0 = -r0\n", nine) + strings.Repeat("r0 = r0\n", (rest-9*nine)/8) + last
}

// P8.2, R8: texts of MaxText bytes, and of one more.
func TestReadLong(t *testing.T) {
	j := judge{}
	for _, size := range []int{mostText - 1, mostText} {
		text := filled(size, "in 1 regs 1\n", "out r0\n")
		if len(text) != size {
			t.Fatalf("%d bytes", len(text))
		}
		heldAgainst(t, text, j)
		if p, spot := prog.Read(text); len(p.Code) < 8000 || spot.Err != api.OK {
			t.Errorf("Read of %d bytes: %d instructions, %v", size, len(p.Code), spot)
		}
		refused(t, filled(size, "in 1 regs 1\n", "r0 = r1\nout r0\n"), api.ErrProg, size-15)
		refused(t, filled(size, "in 2 regs 1\n", "out r0\n"), api.ErrProg, 0)
		refused(t, filled(size, "in 1 regs 1\n", "out x\n"), api.ErrText, size-6)
		refused(t, filled(size, "in 1 regs 1\n", "out r0"), api.ErrText, size-6)
		refused(t, filled(size, "in 1 regs 1\n", ""), api.ErrText, size)
		refused(t, filled(size, "in 1 regs 1\n", "out r0\n\n"), api.ErrText, size-1)
		refused(t, strings.Repeat("\n", size), api.ErrText, 0)
		refused(t, strings.Repeat(" ", size), api.ErrText, 0)
		refused(t, "in 1 regs 1\nout"+strings.Repeat(" ", size-15), api.ErrText, 12)
		refused(t, "in 1 regs 1\n"+strings.Repeat("9", size-12), api.ErrText, 12)
	}
	for _, head := range []string{"in 1 regs 1\n", "in 2 regs 1\n", "x", "", "in 1 regs 1\nr0 = r1\n"} {
		for _, size := range []int{mostText + 1, mostText + 2, 2 * mostText, 1 << 20} {
			refused(t, filled(size, head, "out r0\n"), api.ErrLong, mostText)
		}
	}
	refused(t, filled(mostText, "in 1 regs 1\n", "out r0\n")+"\n", api.ErrLong, mostText)
	refused(t, strings.Repeat("\xff", mostText+1), api.ErrLong, mostText)
}

// P8.2, P8.7: a program's text with a byte left out, changed, or one more; cut off at each place.
func TestReadNearly(t *testing.T) {
	j := judge{}
	for _, text := range []string{lines("in 2 regs 3 | r2 = r0 - r1 | r2 = r2 / 2 | out r2 r0"), lines("in 1 regs 10 | r9 = -r0 | r1 = r9 << 64 | r0 = r1 >> 1 | r8 = r9 * -12 | r7 = r8 + r9 | r6 = r7 | out r6 r0 r9"), lines("in 1 regs 1 | out r0")} {
		heldAgainst(t, text, j)
		for i := range len(text) {
			heldAgainst(t, text[:i], j)
			heldAgainst(t, text[i:], j)
			heldAgainst(t, text[:i]+text[i+1:], j)
			heldAgainst(t, text[:i]+text, j)
			for c := range 256 {
				b := string([]byte{byte(c)})
				heldAgainst(t, text[:i]+b+text[i+1:], j)
				heldAgainst(t, text[:i]+b+text[i:], j)
				heldAgainst(t, text+b, j)
			}
		}
	}
}

// P8.2: lines of all kinds in any order.
func TestReadShuffled(t *testing.T) {
	j := judge{}
	pieces := []string{"in 1 regs 2\n", "in 2 regs 1\n", "r0 = r1\n", "r1 = -r0\n", "r0 = r2\n", "r1 = r0 * 0\n", "out r0\n", "out\n", "out r1 r0\n", "\n", "x", "out r0"}
	texts := []string{""}
	for begin, depth := 0, 0; depth < 4; depth++ {
		end := len(texts)
		for ; begin < end; begin++ {
			for _, s := range pieces {
				texts = append(texts, texts[begin]+s)
			}
		}
	}
	for _, text := range texts {
		heldAgainst(t, text, j)
	}
}

// P8.2: every second part of an instruction's line out of a few bytes.
func TestReadTerms(t *testing.T) {
	j := judge{}
	texts := []string{""}
	for begin := 0; len(texts[begin]) < 6; begin++ {
		for _, c := range []string{"r", "0", "1", " ", "-", "+", "<"} {
			texts = append(texts, texts[begin]+c)
		}
	}
	for _, s := range texts {
		heldAgainst(t, "in 1 regs 1\nr0 = "+s+"\nout r0\n", j)
	}
}
