package prog

import (
	"strconv"
	"strings"

	"swage/api"
)

// mostDigits is how many digits a number in a text may have: so few that it is an int on every machine.
const mostDigits = 9

// Text is a program's text. It may be longer than Read takes.
func Text(p api.Prog) (string, api.Errno) {
	if _, e := Check(p); e != api.OK {
		return "", e
	}
	var b strings.Builder
	b.WriteString("in " + strconv.Itoa(p.Ins) + " regs " + strconv.Itoa(p.Regs) + "\n")
	for _, i := range p.Code {
		b.WriteString(name(i.To) + " = " + term(i) + "\n")
	}
	b.WriteString("out")
	for _, r := range p.Outs {
		b.WriteString(" " + name(r))
	}
	b.WriteString("\n")
	return b.String(), api.OK
}

// name is a register's name.
func name(r int) string {
	return "r" + strconv.Itoa(r)
}

// term is what stands behind the = of an instruction that may be.
func term(i api.Instr) string {
	a := name(i.A)
	switch i.Op {
	case api.OpMove:
		return a
	case api.OpNeg:
		return "-" + a
	case api.OpAdd, api.OpSub:
		return a + " " + sign(i.Op) + " " + name(i.B)
	}
	return a + " " + sign(i.Op) + " " + strconv.Itoa(i.C)
}

// sign is what stands between what an operation asks, or that and its constant; of those that have nothing there it is empty.
func sign(op int) string {
	switch op {
	case api.OpAdd:
		return "+"
	case api.OpSub:
		return "-"
	case api.OpMul:
		return "*"
	case api.OpDiv:
		return "/"
	case api.OpShl:
		return "<<"
	case api.OpShr:
		return ">>"
	}
	return ""
}

// Read is the program of a text, or what is wrong with the text.
func Read(text string) (api.Prog, api.Spot) {
	if len(text) > api.MaxText {
		return api.Prog{}, api.Spot{Err: api.ErrLong, At: api.MaxText}
	}
	p, at, whole := readLines(text)
	if !whole {
		return api.Prog{}, api.Spot{Err: api.ErrText, At: at}
	}
	if k, e := Check(p); e != api.OK { // the instructions stand behind the first line: so -1 leads to that
		return api.Prog{}, api.Spot{Err: e, At: begin(text, k+1)}
	}
	return p, api.Spot{}
}

// readLines is the program that a text's lines tell, and whether they do so, from the first one to the last one; else the place where the first line begins that does not, the text's length, if each does, and lines lack.
func readLines(text string) (api.Prog, int, bool) {
	var p api.Prog
	at, ended := 0, false
lines:
	for line := range strings.Lines(text) {
		words, whole := cutWords(line)
		ok := false
		switch {
		case !whole || ended:
			break lines
		case at == 0:
			p.Ins, p.Regs, ok = readHead(words)
		case words[0] == "out":
			p.Outs, ok = readRegisters(words[1:])
			ended = ok
		default:
			var i api.Instr
			i, ok = readInstr(words)
			p.Code = append(p.Code, i)
		}
		if !ok {
			break lines
		}
		at += len(line)
	}
	return p, at, ended && at == len(text)
}

// cutWords are the words of a line, at least one, each two parted by one blank, and whether the line has its byte 10 behind it.
func cutWords(line string) ([]string, bool) {
	line, whole := strings.CutSuffix(line, "\n")
	return strings.Split(line, " "), whole
}

// begin is the place of the first byte of the line with this number, from 0 on.
func begin(text string, number int) int {
	at := 0
	for line := range strings.Lines(text) {
		if number == 0 {
			break
		}
		at += len(line)
		number--
	}
	return at
}

// readHead are both numbers of the first line, and whether it is one.
func readHead(words []string) (int, int, bool) {
	if len(words) != 4 || words[0] != "in" || words[2] != "regs" {
		return 0, 0, false
	}
	ins, ok1 := readNumber(words[1])
	regs, ok2 := readNumber(words[3])
	return ins, regs, ok1 && ok2
}

// readInstr is the instruction of a line, and whether it is one's.
func readInstr(words []string) (api.Instr, bool) {
	if len(words) < 3 || words[1] != "=" {
		return api.Instr{}, false
	}
	to, named := readRegister(words[0])
	i, told := readTerm(words[2:])
	i.To = to
	return i, named && told
}

// readTerm is the instruction by what stands behind its =, and whether it is one's.
func readTerm(words []string) (api.Instr, bool) {
	switch len(words) {
	case 1:
		return readLone(words[0])
	case 3:
		return readSigned(words[0], words[1], words[2])
	}
	return api.Instr{}, false
}

// readLone is the instruction of a register's name alone, or of one with a minus ahead, and whether it is one's.
func readLone(word string) (api.Instr, bool) {
	op := api.OpMove
	word, minus := strings.CutPrefix(word, "-")
	if minus {
		op = api.OpNeg
	}
	a, ok := readRegister(word)
	return api.Instr{Op: op, A: a}, ok
}

// readSigned is the instruction of two words with a sign between, and whether it is one's.
func readSigned(first, between, second string) (api.Instr, bool) {
	var named, told bool
	i := api.Instr{Op: readSign(between)}
	i.A, named = readRegister(first)
	if asksTwo(i.Op) {
		i.B, told = readRegister(second)
	} else {
		i.C, told = readConstant(second)
	}
	return i, i.Op != 0 && named && told
}

// readSign is the operation that has this sign, 0, if none has.
func readSign(word string) int {
	for op := api.OpAdd; op <= api.OpShr; op++ {
		if sign(op) == word {
			return op
		}
	}
	return 0
}

// readRegisters are the registers that these words name, and whether each names one.
func readRegisters(words []string) ([]int, bool) {
	var l []int
	for _, word := range words {
		r, ok := readRegister(word)
		if !ok {
			return nil, false
		}
		l = append(l, r)
	}
	return l, true
}

// readRegister is the register that a word names, and whether it names one, whether a program has it or not.
func readRegister(word string) (int, bool) {
	digits, named := strings.CutPrefix(word, "r")
	r, ok := readNumber(digits)
	return r, named && ok
}

// readConstant is the number of a word, and whether it is one, with a minus ahead of it or without.
func readConstant(word string) (int, bool) {
	digits, minus := strings.CutPrefix(word, "-")
	c, ok := readNumber(digits)
	if !minus {
		return c, ok
	}
	return -c, ok && c != 0
}

// readNumber is the number of a word, and whether it is one in digits alone, not too many of them. Signs and noughts ahead are taken by Atoi as well: so the number's digits are held against the word.
func readNumber(word string) (int, bool) {
	n, wrong := strconv.Atoi(word)
	if wrong != nil || n < 0 || len(word) > mostDigits || strconv.Itoa(n) != word {
		return 0, false
	}
	return n, true
}
