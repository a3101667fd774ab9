package denote_test

import (
	"math/big"
	"slices"
	"strings"
	"testing"

	"swage/api"
	"swage/denote"
	"swage/integer"
	"swage/ratio"
)

// P9.1: programs, and the rows of their outs.
func TestRows(t *testing.T) {
	for text, want := range map[string]string{
		"in 2 regs 3 | r2 = r0 - r1 | r2 = r2 / 2 | out r2 r0":                "1/2 -1/2; 1 0",
		"in 1 regs 1 | out r0":                                                "1",
		"in 1 regs 2 | out r1":                                                "0",
		"in 3 regs 4 | out r2 r3 r0 r2":                                       "0 0 1; 0 0 0; 1 0 0; 0 0 1",
		"in 2 regs 2 | r0 = r1 | out r0 r1":                                   "0 1; 0 1",
		"in 2 regs 2 | r0 = -r1 | out r0 r1":                                  "0 -1; 0 1",
		"in 2 regs 2 | r0 = r0 + r1 | out r0 r1":                              "1 1; 0 1",
		"in 2 regs 2 | r1 = r0 - r1 | out r0 r1":                              "1 0; 1 -1",
		"in 2 regs 2 | r1 = r0 * -3 | out r0 r1":                              "1 0; -3 0",
		"in 2 regs 2 | r1 = r1 / -3 | out r0 r1":                              "1 0; 0 -1/3",
		"in 2 regs 2 | r1 = r1 << 5 | out r0 r1":                              "1 0; 0 32",
		"in 2 regs 2 | r1 = r1 >> 5 | out r0 r1":                              "1 0; 0 1/32",
		"in 1 regs 2 | r0 = r0 + r0 | r0 = r0 + r0 | out r0":                  "4",
		"in 1 regs 2 | r0 = r0 - r0 | out r0 r1":                              "0; 0",
		"in 1 regs 2 | r0 = r1 | out r0":                                      "0",
		"in 1 regs 2 | r1 = r1 * 7 | r1 = r1 / 7 | r1 = r1 >> 64 | out r1":    "0",
		"in 1 regs 2 | r1 = r0 * 6 | r1 = r1 / 3 | out r1":                    "2",
		"in 1 regs 2 | r1 = r0 * 6 | r1 = r1 / 4 | out r1":                    "3/2",
		"in 1 regs 2 | r1 = r0 << 3 | r1 = r1 >> 3 | out r1":                  "1",
		"in 1 regs 2 | r1 = r0 << 3 | r1 = r1 >> 5 | out r1":                  "1/4",
		"in 1 regs 2 | r1 = r0 / 2 | r0 = r0 / 3 | r1 = r1 + r0 | out r1 r1":  "5/6; 5/6",
		"in 1 regs 3 | r1 = r0 | r1 = -r1 | r2 = r1 | r1 = r0 | out r2 r1 r2": "-1; 1; -1",
		"in 2 regs 3 | r2 = r0 | r0 = r1 | r1 = r2 | out r0 r1 r0 r0":         "0 1; 1 0; 0 1; 0 1",
		"in 2 regs 3 | r2 = r0 / 5 | r0 = r1 * 512 | r2 = r2 - r0 | out r2":   "1/5 -512",
		"in 1 regs 1 | r0 = r0 / -512 | r0 = r0 / -512 | out r0":              "1/262144",
	} {
		rows, e := denote.Rows(read(t, text))
		if toldAll(rows) != want || e != api.OK {
			t.Errorf("Rows of %s: %s, %v", text, toldAll(rows), e)
		}
	}
}

// P9.1: each operation with all constants at which something turns; it may ask what it sets.
func TestRowsOfEach(t *testing.T) {
	constants := map[int][]int{mul: {-mostConst, -511, -2, -1, 1, 2, 3, 511, mostConst}, shl: {1, 2, 31, 32, 33, 63, mostShift}}
	constants[div], constants[shr] = constants[mul], constants[shl]
	for op := move; op <= shr; op++ {
		for _, c := range append(constants[op], []int{0}[:1-min(1, len(constants[op]))]...) {
			for _, to := range []int{0, 1, 2, 3} {
				p := api.Prog{Ins: 2, Regs: 4, Code: []api.Instr{in(div, 0, 0, 0, 6), in(add, 0, 0, 1, 0), in(op, to, 0, 0, c)}, Outs: []int{0, 1, 2, 3}}
				for b := range 4 {
					if op == add || op == sub {
						p.Code[2].B = b
					}
					compare(t, p)
				}
			}
		}
	}
}

// compare holds all that Rows and Steps tell of a program against what it means.
func compare(t *testing.T, p api.Prog) {
	t.Helper()
	want := meant(p)
	rows, e := denote.Rows(p)
	switch {
	case want.narrow < len(p.Code):
		if len(rows) != 0 || e != api.ErrLong {
			t.Errorf("Rows of %s: %d, %v, though the instruction %d is too wide", show(p), len(rows), e, want.narrow)
		}
	case !slices.EqualFunc(rows, want.rows, sayAll) || e != api.OK:
		t.Errorf("Rows of %s: %s, %v", show(p), toldAll(rows), e)
	}
	at := 0
	for k, l := range denote.Steps(p) {
		if k != at || k >= len(p.Code) || !sayAll(l, want.steps[k]) {
			t.Fatalf("Steps of %s: %d, %s", show(p), k, told(l))
		}
		at++
	}
	if at != want.narrow {
		t.Errorf("Steps of %s: %d, not %d", show(p), at, want.narrow)
	}
}

// P9.1, P9.2
func TestRowsMany(t *testing.T) {
	for _, p := range some(1000) {
		compare(t, p)
	}
	m := maker(97)
	compare(t, m.program(mostSize, mostSize, 20, 300))
	compare(t, m.program(1, mostRegs, mostRegs, 2000))
	compare(t, m.program(mostRegs, mostRegs, mostRegs, 300))
	compare(t, m.program(3, 5, 5, 2000))
}

// P9.1, P9.2: as many instructions, inputs and outs as may be.
func TestRowsLong(t *testing.T) {
	p := api.Prog{Ins: 2, Regs: 2, Code: times(mostCode, in(add, 0, 0, 1, 0)), Outs: []int{0}}
	if rows, e := denote.Rows(p); toldAll(rows) != "1 16384" || e != api.OK {
		t.Errorf("Rows: %s, %v", toldAll(rows), e)
	}
	compare(t, p)
	p = plain(mostRegs, mostRegs, mostRegs)
	p.Code = append(times(mostRegs-1, in(add, 0, 0, 0, 0)), in(shr, 0, 0, 0, 64))
	for k := 1; k < mostRegs; k++ {
		p.Code[k-1].B = k
	}
	compare(t, p)
}

// P9.2: what the chapter's example tells.
func TestSteps(t *testing.T) {
	var steps []string
	for k, l := range denote.Steps(example()) {
		if k != len(steps) {
			t.Errorf("the step %d is told as %d", len(steps), k)
		}
		steps = append(steps, told(l))
	}
	if !slices.Equal(steps, []string{"1 -1", "1/2 -1/2"}) {
		t.Errorf("Steps: %q", steps)
	}
	for k := range denote.Steps(plain(1, 3, 2)) {
		t.Errorf("a step of a program without instructions: %d", k)
	}
}

// P9.2, R6: left behind each step, and gone through again.
func TestStepsLeftEarly(t *testing.T) {
	for _, p := range some(60) {
		want := meant(p)
		steps := denote.Steps(p)
		for n := 1; n <= want.narrow; n++ {
			at := 0
			for k, l := range steps {
				if k != at || !sayAll(l, want.steps[k]) {
					t.Fatalf("Steps of %s: %d, %s", show(p), k, told(l))
				}
				at++
				if at == n {
					break
				}
			}
			calls := 0
			steps(func(int, []ratio.Rat) bool { calls++; return calls < n })
			if at != n || calls != n {
				t.Errorf("Steps of %s, left behind %d: %d, %d", show(p), n, at, calls)
			}
		}
	}
}

// R6: one iterator, gone through within itself.
func TestStepsWithinItself(t *testing.T) {
	steps := denote.Steps(alone(in(add, 0, 0, 0, 0), in(mul, 0, 0, 0, 3), in(div, 0, 0, 0, 4)))
	var all []string
	for k, outer := range steps {
		for m, inner := range steps {
			all = append(all, told(outer)+" and "+told(inner))
			if m == k {
				break
			}
		}
	}
	if want := "2 and 2, 6 and 2, 6 and 6, 3/2 and 2, 3/2 and 6, 3/2 and 3/2"; strings.Join(all, ", ") != want {
		t.Errorf("%q", all)
	}
}

// R3, R6: what was handed in is not kept: writing into it later, or meanwhile, changes nothing.
func TestStepsOfWhatChanges(t *testing.T) {
	p := example()
	steps := denote.Steps(p)
	p.Code[1] = api.Instr{}
	p.Outs[0] = -1
	for range 2 {
		var all []string
		for _, l := range steps {
			all = append(all, told(l))
			p.Code[0] = in(shr, 9, 9, 9, 9)
		}
		if strings.Join(all, ", ") != "1 -1, 1/2 -1/2" {
			t.Errorf("%q", all)
		}
	}
	p = alone(api.Instr{})
	none := denote.Steps(p)
	p.Code[0] = in(move, 0, 0, 0, 0)
	for k, l := range none {
		t.Errorf("of a program that might not be: %d, %s", k, told(l))
	}
}

// P9.3: the chapter's examples, and others.
func TestApply(t *testing.T) {
	for _, x := range []struct {
		text string
		in   []int64
		want string
	}{
		{"in 2 regs 3 | r2 = r0 - r1 | r2 = r2 / 2 | out r2 r0", []int64{4, 7}, "-3/2 4"},
		{"in 2 regs 3 | r2 = r0 - r1 | r2 = r2 / 2 | out r2 r0", []int64{4, -6}, "5 4"},
		{"in 2 regs 3 | r2 = r0 - r1 | r2 = r2 / 2 | out r2 r0", []int64{0, 0}, "0 0"},
		{"in 1 regs 1 | out r0", []int64{-9}, "-9"},
		{"in 1 regs 2 | out r1 r0 r1 r0", []int64{5}, "0 5 0 5"},
		{"in 1 regs 2 | r1 = r1 + r0 | r1 = r1 >> 2 | out r1", []int64{-6}, "-3/2"},
		{"in 1 regs 2 | r1 = r1 + r0 | r1 = r1 >> 2 | out r1", []int64{-8}, "-2"},
		{"in 3 regs 3 | r0 = r0 << 3 | r1 = r1 * -2 | r0 = r0 + r1 | r0 = r0 - r2 | r0 = r0 / 3 | out r0", []int64{1, 2, 3}, "1/3"},
		{"in 1 regs 1 | r0 = r0 / 3 | r0 = -r0 | r0 = r0 * 3 | out r0", []int64{7}, "-7"},
		{"in 2 regs 2 | r0 = r1 | out r0 r1", []int64{7, 8}, "8 8"},
	} {
		l, e := denote.Apply(read(t, x.text), list(x.in...))
		if told(l) != x.want || e != api.OK {
			t.Errorf("Apply of %s to %v: %s, %v", x.text, x.in, told(l), e)
		}
	}
}

// P9.3
func TestApplyMany(t *testing.T) {
	m := maker(31)
	for _, p := range some(1000) {
		numbers := m.numbers(p.Ins)
		set, want := trace(p, wholes(numbers))
		if narrow(set) < len(set) {
			t.Fatalf("%s is too wide", show(p))
		}
		if l, e := denote.Apply(p, integers(numbers)); !sayAll(l, want) || e != api.OK {
			t.Errorf("Apply of %s to %v: %s, %v", show(p), numbers, told(l), e)
		}
	}
	p := m.program(mostRegs, mostRegs, mostRegs, 2000)
	numbers := m.numbers(p.Ins)
	_, want := trace(p, wholes(numbers))
	if l, e := denote.Apply(p, integers(numbers)); !sayAll(l, want) || e != api.OK {
		t.Errorf("Apply of %s: %s, %v", show(p), told(l), e)
	}
}

// P9.3: not as many numbers as inputs.
func TestApplyRange(t *testing.T) {
	for _, p := range append(some(40), plain(mostRegs, mostRegs, 1), wide(1, 1), wide(3, 1)) {
		for _, n := range []int{0, p.Ins - 1, p.Ins + 1, 2 * p.Ins, p.Regs, 200} {
			if n == p.Ins {
				continue
			}
			if l, e := denote.Apply(p, slices.Repeat(list(1), n)); len(l) != 0 || e != api.ErrRange {
				t.Errorf("Apply of %s to %d numbers: %s, %v", show(p), n, told(l), e)
			}
		}
		if l, e := denote.Apply(p, nil); len(l) != 0 || e != api.ErrRange {
			t.Errorf("Apply of %s to nothing: %s, %v", show(p), told(l), e)
		}
	}
}

// P9.3: 0 in all its forms is a number as others are.
func TestApplyZeros(t *testing.T) {
	for _, zero := range []integer.Int{{}, of(0), integer.Make(true, nil), integer.Make(true, []uint32{0, 0})} {
		l, e := denote.Apply(example(), []integer.Int{zero, of(5)})
		if told(l) != "-5/2 0" || e != api.OK {
			t.Errorf("Apply: %s, %v", told(l), e)
		}
	}
}

// P9.1 to P9.5: of a program that may not be every call answers ErrProg, and nothing beside it; but for a den of 0 it goes ahead of all else.
func TestWrongPrograms(t *testing.T) {
	good, long := example(), wide(2, 2)
	m := grid(t, "[[1 -1] [2 0]]")
	for _, p := range wrong() {
		if rows, e := denote.Rows(p); len(rows) != 0 || e != api.ErrProg {
			t.Errorf("Rows of %s: %v, %v", show(p), rows, e)
		}
		for k, l := range denote.Steps(p) {
			t.Errorf("Steps of %s: %d, %v", show(p), k, l)
		}
		for _, numbers := range [][]integer.Int{nil, list(1), list(1, 2), list(1, 2, 3)} {
			if l, e := denote.Apply(p, numbers); len(l) != 0 || e != api.ErrProg {
				t.Errorf("Apply of %s: %v, %v", show(p), l, e)
			}
		}
		for _, x := range [][2]api.Prog{{p, p}, {p, good}, {good, p}, {p, long}, {long, p}} {
			if same, e := denote.Same(x[0], x[1]); same || e != api.ErrProg {
				t.Errorf("Same of %s, %s: %v, %v", show(x[0]), show(x[1]), same, e)
			}
		}
		for den, want := range map[int64]api.Errno{0: api.ErrArg, 2: api.ErrProg, -1: api.ErrProg} {
			if is, e := denote.Is(p, m, of(den)); is || e != want {
				t.Errorf("Is of %s, %d: %v, %v", show(p), den, is, e)
			}
			if is, e := denote.Is(p, grid(t, "[]"), of(den)); is || e != want {
				t.Errorf("Is of %s, none, %d: %v, %v", show(p), den, is, e)
			}
		}
		if m, d, e := denote.Matrix(p); m.Rows() != 0 || d.Sign() != 0 || e != api.ErrProg {
			t.Errorf("Matrix of %s: %s, %s, %v", show(p), m.Text(), d.Text(), e)
		}
	}
}

// P9.1: a program that may not be, and would be too wide at an instruction ahead of the wrong one.
func TestWrongBehindWide(t *testing.T) {
	p := wide(17, 17)
	p.Code = append(p.Code, in(move, 0, 17, 0, 0))
	_, a := denote.Rows(p)
	_, b := denote.Apply(p, slices.Repeat([]integer.Int{integers([]*big.Int{new(big.Int).Lsh(big.NewInt(1), 70000)})[0]}, 17))
	_, c := denote.Same(p, p)
	_, d := denote.Is(p, grid(t, "[[1]]"), of(1))
	_, _, e := denote.Matrix(p)
	for k, got := range []api.Errno{a, b, c, d, e} {
		if got != api.ErrProg {
			t.Errorf("the call %d: %v", k, got)
		}
	}
	for k := range denote.Steps(p) {
		t.Fatalf("Steps: %d", k)
	}
}
