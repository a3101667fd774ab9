package denote_test

import (
	"math/big"
	"slices"
	"strconv"
	"strings"
	"testing"

	"swage/api"
	"swage/denote"
	"swage/integer"
	"swage/matrix"
)

// P9.4
func TestSame(t *testing.T) {
	const p = "in 2 regs 3 | r2 = r0 - r1 | r2 = r2 / 2 | out r2 r0"
	for _, x := range []struct {
		p, q string
		want bool
	}{
		{p, p, true},
		{p, "in 2 regs 3 | r2 = r0 - r1 | r2 = r2 >> 1 | out r2 r0", true},
		{p, "in 2 regs 9 | r7 = r1 - r0 | r1 = r7 / -2 | out r1 r0", true},
		{p, "in 2 regs 3 | r2 = r0 - r1 | r2 = r2 / 2 | out r0", false},
		{p, "in 2 regs 3 | r2 = r0 - r1 | r2 = r2 / 2 | out r2", false},
		{p, "in 2 regs 3 | r2 = r0 - r1 | r2 = r2 / 2 | out r2 r0 r0", false},
		{p, "in 2 regs 3 | r2 = r0 - r1 | r2 = r2 / 2 | out r0 r2", false},
		{p, "in 2 regs 3 | r2 = r0 - r1 | r2 = r2 / -2 | out r2 r0", false},
		{p, "in 2 regs 3 | r2 = r0 - r1 | r2 = r2 / 3 | out r2 r0", false},
		{p, "in 2 regs 3 | r2 = r0 + r1 | r2 = r2 / 2 | out r2 r0", false},
		{p, "in 3 regs 4 | r3 = r0 - r1 | r3 = r3 / 2 | out r3 r0", false},
		{"in 1 regs 3 | out r2", "in 2 regs 3 | out r2", false},
		{"in 1 regs 3 | out r2", "in 1 regs 2 | out r1", true},
		{"in 2 regs 3 | out r2", "in 1 regs 2 | out r1 r1", false},
		{"in 2 regs 3 | out r0 r1", "in 4 regs 5 | r0 = r0 + r3 | out r0", false},
		{"in 1 regs 3 | out r2 r1", "in 1 regs 2 | r0 = r0 - r0 | out r1 r0", true},
		{"in 1 regs 1 | out r0", "in 1 regs 1 | r0 = -r0 | out r0", false},
		{"in 1 regs 1 | r0 = r0 * 3 | out r0", "in 1 regs 1 | r0 = r0 / 3 | out r0", false},
		{"in 1 regs 1 | r0 = r0 / 2 | out r0", "in 1 regs 1 | r0 = r0 / 2 | r0 = r0 * 3 | out r0", false},
		{"in 1 regs 1 | r0 = r0 / 6 | r0 = r0 * 4 | out r0", "in 1 regs 1 | r0 = r0 << 1 | r0 = r0 / 3 | out r0", true},
		{"in 2 regs 2 | out r0 r1", "in 2 regs 2 | out r0 r0", false},
		{"in 3 regs 3 | out r2", "in 3 regs 3 | out r0", false},
	} {
		for _, both := range [][2]string{{x.p, x.q}, {x.q, x.p}} {
			if same, e := denote.Same(read(t, both[0]), read(t, both[1])); same != x.want || e != api.OK {
				t.Errorf("Same of %s, %s: %v, %v", both[0], both[1], same, e)
			}
		}
	}
}

// P9.4: what is the same, done otherwise, and what differs at one place, of programs of many inputs and outs.
func TestSameMany(t *testing.T) {
	m := maker(5)
	for _, p := range append(some(300), m.program(mostRegs, mostRegs, mostRegs, 200), plain(mostRegs, mostRegs, mostRegs)) {
		k := m.below(len(p.Outs))
		r := p.Outs[k]
		twice := p
		twice.Code = append(slices.Clone(p.Code), in(mul, r, r, 0, -6), in(div, r, r, 0, 3), in(neg, r, r, 0, 0), in(shr, r, r, 0, 1))
		if same, e := denote.Same(p, twice); !same || e != api.OK {
			t.Errorf("Same of %s, %s: %v, %v", show(p), show(twice), same, e)
		}
		other := p
		other.Code = append(slices.Clone(p.Code), in(add, r, r, m.below(p.Regs), 0))
		a, b := meant(p), meant(other)
		want := slices.EqualFunc(a.rows, b.rows, func(x, y []*big.Rat) bool {
			return slices.EqualFunc(x, y, func(v, w *big.Rat) bool { return v.Cmp(w) == 0 })
		})
		if same, e := denote.Same(p, other); same != want || e != api.OK {
			t.Errorf("Same of %s, %s: %v, %v", show(p), show(other), same, e)
		}
	}
}

// P9.4: the chapter's examples, and matrices and numbers of other kinds.
func TestIs(t *testing.T) {
	for _, x := range []struct {
		m    string
		den  int64
		want bool
	}{
		{"[[1 -1] [2 0]]", 2, true},
		{"[[2 -2] [4 0]]", 4, true},
		{"[[-1 1] [-2 0]]", -2, true},
		{"[[-3 3] [-6 0]]", -6, true},
		{"[[1 -1]]", 2, false},
		{"[[2 0]]", 2, false},
		{"[[1] [2]]", 2, false},
		{"[[1 -1 0] [2 0 0]]", 2, false},
		{"[[1 -1] [2 0] [0 0]]", 2, false},
		{"[[1 -1] [2 1]]", 2, false},
		{"[[1 -1] [-2 0]]", 2, false},
		{"[[1 1] [2 0]]", 2, false},
		{"[[2 -1] [2 0]]", 2, false},
		{"[[2 0] [1 -1]]", 2, false},
		{"[[1 2] [-1 0]]", 2, false},
		{"[[1 -1] [2 0]]", -2, false},
		{"[[1 -1] [2 0]]", 1, false},
		{"[[1 -1] [2 0]]", 3, false},
		{"[[1 -1] [2 0]]", 4, false},
		{"[[0 0] [0 0]]", 2, false},
		{"[]", 2, false},
		{"[]", -1, false},
	} {
		if is, e := denote.Is(example(), grid(t, x.m), of(x.den)); is != x.want || e != api.OK {
			t.Errorf("Is %s over %d: %v, %v", x.m, x.den, is, e)
		}
	}
	for _, m := range []string{"[[1 -1] [2 0]]", "[]"} {
		for _, zero := range []integer.Int{{}, of(0), integer.Make(true, nil)} {
			if is, e := denote.Is(example(), grid(t, m), zero); is || e != api.ErrArg {
				t.Errorf("Is %s over 0: %v, %v", m, is, e)
			}
		}
	}
	noughts := plain(2, 5, 5)
	noughts.Outs = []int{2, 4}
	for _, den := range []int64{1, -7} {
		if is, e := denote.Is(noughts, grid(t, "[[0 0] [0 0]]"), of(den)); !is || e != api.OK {
			t.Errorf("Is of noughts over %d: %v, %v", den, is, e)
		}
	}
}

// P9.4: a program of more inputs or outs than a matrix has rows and columns is none of any matrix.
func TestIsOfMore(t *testing.T) {
	m, _ := matrix.Identity(mostSize)
	for _, p := range []api.Prog{plain(17, 17, 16), plain(16, 17, 17), plain(mostRegs, mostRegs, mostRegs), plain(15, 16, 16), plain(16, 16, 15)} {
		if is, e := denote.Is(p, m, of(1)); is || e != api.OK {
			t.Errorf("Is of %s: %v, %v", show(p), is, e)
		}
	}
	if is, e := denote.Is(plain(16, 16, 16), m, of(1)); !is || e != api.OK {
		t.Errorf("Is of the identity: %v, %v", is, e)
	}
}

// P9.4: each place of a matrix is asked.
func TestIsAtEachPlace(t *testing.T) {
	p := maker(8).small(5, 4)
	m, d, _ := denote.Matrix(p)
	for i := range m.Rows() {
		for j := range m.Cols() {
			var rows [][]integer.Int
			for k := range m.Rows() {
				l, _ := m.Row(k)
				rows = append(rows, l)
			}
			rows[i][j] = rows[i][j].Add(of(1))
			other, _ := matrix.New(rows...)
			if is, e := denote.Is(p, other, d); is || e != api.OK {
				t.Errorf("Is with another number at %d, %d: %v, %v", i, j, is, e)
			}
		}
	}
}

// small is a program of so many inputs and outs.
func (m maker) small(ins, outs int) api.Prog { return m.program(ins, outs, ins+2, 30) }

// P9.4: numbers of great matrices, and a great den.
func TestIsGreat(t *testing.T) {
	great := integers([]*big.Int{power(100000), new(big.Int).Neg(power(100001)), power(100002)})
	m, _ := matrix.New([]integer.Int{great[0], great[1]}, []integer.Int{great[2], of(0)})
	p := read(t, "in 2 regs 3 | r2 = r0 - r1 | r2 = r2 - r1 | r0 = r0 << 2 | out r2 r0")
	for k, want := range []bool{true, false, false} {
		if is, e := denote.Is(p, m, great[k]); is != want || e != api.OK {
			t.Errorf("Is over a great number: %v, %v", is, e)
		}
	}
}

// P9.5
func TestMatrix(t *testing.T) {
	for text, want := range map[string]string{
		"in 2 regs 3 | r2 = r0 - r1 | r2 = r2 / 2 | out r2 r0":                 "[[1 -1] [2 0]] 2",
		"in 1 regs 1 | out r0":                                                 "[[1]] 1",
		"in 1 regs 2 | out r1":                                                 "[[0]] 1",
		"in 3 regs 4 | out r3 r3":                                              "[[0 0 0] [0 0 0]] 1",
		"in 1 regs 1 | r0 = r0 / -6 | r0 = r0 * 4 | out r0":                    "[[-2]] 3",
		"in 2 regs 2 | r0 = r0 / 4 | r1 = r1 / 6 | out r0 r1 r0":               "[[3 0] [0 2] [3 0]] 12",
		"in 2 regs 2 | r0 = r0 / 4 | r1 = r1 / -6 | r0 = r0 + r1 | out r0":     "[[3 -2]] 12",
		"in 1 regs 1 | r0 = r0 * 6 | r0 = r0 / 3 | out r0 r0":                  "[[2] [2]] 1",
		"in 1 regs 2 | r1 = r0 / 7 | out r0":                                   "[[1]] 1",
		"in 1 regs 2 | r1 = r0 >> 64 | r0 = r0 << 64 | out r1 r0":              "[[1] [340282366920938463463374607431768211456]] 18446744073709551616",
		"in 3 regs 3 | r0 = r0 / 2 | r1 = r1 / 3 | r2 = r2 / 5 | out r2 r1 r0": "[[0 0 6] [0 10 0] [15 0 0]] 30",
		"in 2 regs 3 | r0 = r0 / 2 | r1 = r1 / 2 | r0 = r0 + r0 | out r0 r1":   "[[2 0] [0 1]] 2",
	} {
		m, d, e := denote.Matrix(read(t, text))
		if got := m.Text() + " " + d.Text(); got != want || e != api.OK {
			t.Errorf("Matrix of %s: %s, %v", text, got, e)
		}
	}
}

// P9.5: the number is the least one, and the matrix says over it what is denoted.
func TestMatrixMany(t *testing.T) {
	m := maker(12)
	for _, p := range append(some(500), m.program(mostSize, mostSize, 20, 60), m.program(1, mostSize, 20, 60), m.program(mostSize, 1, 20, 60)) {
		least, rows := big.NewInt(1), meant(p).rows
		for _, l := range rows {
			for _, v := range l {
				g := new(big.Int).GCD(nil, nil, least, v.Denom())
				least.Mul(least, g.Quo(v.Denom(), g))
			}
		}
		var texts []string
		for _, l := range rows {
			var places []string
			for _, v := range l {
				places = append(places, new(big.Rat).Mul(v, new(big.Rat).SetInt(least)).RatString())
			}
			texts = append(texts, "["+strings.Join(places, " ")+"]")
		}
		want := "[" + strings.Join(texts, " ") + "] " + least.String()
		got, d, e := denote.Matrix(p)
		if got.Text()+" "+d.Text() != want || e != api.OK {
			t.Errorf("Matrix of %s: %s, %s, %v", show(p), got.Text(), d.Text(), e)
		}
	}
}

// P9.5: as many inputs and outs as may be, and one more.
func TestMatrixRange(t *testing.T) {
	for _, x := range []struct {
		ins, outs int
		want      api.Errno
	}{
		{16, 16, api.OK}, {17, 16, api.ErrRange}, {16, 17, api.ErrRange}, {17, 17, api.ErrRange}, {1, 16, api.OK}, {16, 1, api.OK}, {1, 17, api.ErrRange}, {17, 1, api.ErrRange}, {1, mostRegs, api.ErrRange}, {mostRegs, 1, api.ErrRange}, {mostRegs, mostRegs, api.ErrRange}, {1, 1, api.OK},
	} {
		p := plain(x.ins, x.ins, x.outs)
		m, d, e := denote.Matrix(p)
		name := strconv.Itoa(x.ins) + " inputs, " + strconv.Itoa(x.outs) + " outs"
		switch {
		case e != x.want:
			t.Errorf("%s: %v", name, e)
		case e != api.OK && (m.Rows() != 0 || d.Sign() != 0):
			t.Errorf("%s: %s, %s, %v", name, m.Text(), d.Text(), e)
		case e == api.OK && (m.Rows() != x.outs || m.Cols() != x.ins || d.Cmp(of(1)) != 0):
			t.Errorf("%s: %s, %s", name, m.Text(), d.Text())
		}
	}
}
