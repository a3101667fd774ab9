package prog_test

import (
	"slices"
	"testing"

	"swage/api"
	"swage/prog"
)

// P8.4: each operation is of its sort.
func TestCount(t *testing.T) {
	if c, e := prog.Count(example()); c != (prog.Counts{Adds: 1, Divs: 1}) || e != api.OK {
		t.Errorf("Count: %v, %v", c, e)
	}
	sorts := map[int]prog.Counts{move: {Moves: 1}, neg: {Adds: 1}, add: {Adds: 1}, sub: {Adds: 1}, mul: {Muls: 1}, div: {Divs: 1}, shl: {Shifts: 1}, shr: {Shifts: 1}}
	for op, want := range sorts {
		c := 0
		if op >= mul {
			c = 1
		}
		if got, e := prog.Count(alone(1, in(op, 0, 0, 0, c))); got != want || e != api.OK {
			t.Errorf("Count of operation %d: %v, %v", op, got, e)
		}
	}
	for _, p := range some(200) {
		var want prog.Counts
		for _, i := range p.Code {
			want = together(want, sorts[i.Op])
		}
		if got, e := prog.Count(p); got != want || e != api.OK {
			t.Errorf("Count of %s: %v, %v, not %v", show(p), got, e, want)
		}
	}
	if c, e := prog.Count(plain(1, 1, mostCode, 1)); c != (prog.Counts{Moves: mostCode}) || e != api.OK {
		t.Errorf("Count: %v, %v", c, e)
	}
	if c, e := prog.Count(plain(1, 1, 0, 1)); c != (prog.Counts{}) || e != api.OK {
		t.Errorf("Count of nothing: %v, %v", c, e)
	}
}

// together are both counts, sort by sort.
func together(a, b prog.Counts) prog.Counts {
	return prog.Counts{Moves: a.Moves + b.Moves, Adds: a.Adds + b.Adds, Muls: a.Muls + b.Muls, Divs: a.Divs + b.Divs, Shifts: a.Shifts + b.Shifts}
}

// P8.4: programs, and of each instruction whether it is needed.
func TestNeeded(t *testing.T) {
	for text, want := range map[string][]bool{
		"in 2 regs 3 | r2 = r0 - r1 | r2 = r2 / 2 | out r2 r0":           {true, true},
		"in 2 regs 3 | r2 = r0 - r1 | r2 = r2 / 2 | r1 = r0 | out r2 r0": {true, true, false},
		"in 1 regs 1 | out r0":                                                  {},
		"in 1 regs 1 | r0 = r0 | out r0":                                        {true},
		"in 1 regs 2 | r1 = r0 | out r0":                                        {false},
		"in 1 regs 2 | r1 = r0 | out r0 r1":                                     {true},
		"in 1 regs 2 | r1 = r0 | out r1 r1":                                     {true},
		"in 1 regs 2 | r1 = r0 | r1 = -r0 | out r1":                             {false, true},
		"in 1 regs 2 | r1 = r0 | r1 = -r1 | out r1":                             {true, true},
		"in 1 regs 2 | r1 = r0 | r0 = r1 | r1 = r0 + r0 | out r1":               {true, true, true},
		"in 1 regs 3 | r1 = r0 | r2 = r1 | r1 = r0 | out r0":                    {false, false, false},
		"in 1 regs 3 | r1 = r0 | r2 = r1 | r1 = r0 | out r1":                    {false, false, true},
		"in 1 regs 3 | r1 = r0 | r2 = r1 | r1 = -r0 | out r2":                   {true, true, false},
		"in 1 regs 3 | r1 = r0 | r1 = -r0 | r2 = r1 | out r2":                   {false, true, true},
		"in 1 regs 3 | r1 = r0 | r2 = r0 | r0 = r1 + r2 | out r0":               {true, true, true},
		"in 1 regs 3 | r1 = r0 | r2 = r0 | r0 = r2 + r1 | out r0":               {true, true, true},
		"in 1 regs 3 | r1 = r0 | r2 = r0 | r0 = r1 - r1 | out r0":               {true, false, true},
		"in 1 regs 2 | r1 = r1 * 3 | r1 = r1 + r1 | r0 = r1 >> 1 | out r1":      {true, true, false},
		"in 2 regs 2 | r0 = r1 | r1 = r0 | r0 = r1 | r1 = r0 | out r0":          {true, true, true, false},
		"in 1 regs 4 | r1 = r0 << 1 | r2 = r1 / 2 | r3 = r2 * 5 | out r0 r2 r0": {true, true, false},
	} {
		p := read(t, text)
		if got, e := prog.Needed(p); !slices.Equal(got, want) || e != api.OK {
			t.Errorf("Needed of %s: %v, %v", text, got, e)
		}
	}
}

// P8.4: registers asked by number 0 are B of no operation that asks A alone.
func TestNeededAsksNoB(t *testing.T) {
	for op := move; op <= shr; op++ {
		c := 0
		if op >= mul {
			c = 1
		}
		p := api.Prog{Ins: 1, Regs: 3, Code: []api.Instr{in(neg, 0, 0, 0, 0), in(neg, 1, 1, 0, 0), in(op, 2, 1, 0, c)}, Outs: []int{2}}
		if got, e := prog.Needed(p); !slices.Equal(got, []bool{asked(op) == 2, true, true}) || e != api.OK {
			t.Errorf("operation %d: %v, %v", op, got, e)
		}
	}
}

// needs is what the chapter's words say of the instruction k, found by going over all behind it.
func needs(p api.Prog, k int) bool {
	to := p.Code[k].To
	for m := k + 1; m < len(p.Code); m++ {
		i := p.Code[m]
		asks := i.A == to || (i.Op == add || i.Op == sub) && i.B == to
		if asks && needs(p, m) {
			return true
		}
		if i.To == to {
			return false
		}
	}
	return slices.Contains(p.Outs, to)
}

// P8.4
func TestNeededMany(t *testing.T) {
	for _, p := range some(600) {
		var want []bool
		for k := range p.Code {
			want = append(want, needs(p, k))
		}
		if got, e := prog.Needed(p); !slices.Equal(got, want) || e != api.OK {
			t.Errorf("Needed of %s: %v, %v, not %v", show(p), got, e, want)
		}
	}
}

// P8.4: as many instructions as may be, all of them needed, the last one alone, and none.
func TestNeededLong(t *testing.T) {
	p := plain(1, 2, mostCode, 1)
	if got, e := prog.Needed(p); len(got) != mostCode || slices.Contains(got, false) || e != api.OK {
		t.Errorf("Needed: %d, %v", len(got), e)
	}
	p.Code[mostCode-1].A = 1
	if got, e := prog.Needed(p); slices.Index(got, true) != mostCode-1 || e != api.OK {
		t.Errorf("Needed: %d, %v", slices.Index(got, true), e)
	}
	p.Outs[0] = 1
	if got, e := prog.Needed(p); len(got) != mostCode || slices.Contains(got, true) || e != api.OK {
		t.Errorf("Needed: %d, %v", len(got), e)
	}
}

// P8.4
func TestDepth(t *testing.T) {
	for text, want := range map[string]int{
		"in 2 regs 3 | r2 = r0 - r1 | r2 = r2 / 2 | out r2 r0":                           2,
		"in 1 regs 1 | out r0":                                                           0,
		"in 1 regs 9 | out r8":                                                           0,
		"in 1 regs 2 | r1 = r0 | out r0":                                                 0,
		"in 1 regs 2 | r1 = r0 | out r1":                                                 1,
		"in 1 regs 2 | r1 = r0 | out r0 r1":                                              1,
		"in 1 regs 2 | r1 = r0 | out r1 r0":                                              1,
		"in 1 regs 3 | r0 = r2 | out r0":                                                 1,
		"in 1 regs 1 | r0 = r0 | r0 = r0 | r0 = r0 | out r0":                             3,
		"in 1 regs 2 | r0 = -r0 | r0 = -r0 | r0 = r1 | out r0":                           1,
		"in 1 regs 3 | r1 = r0 | r1 = r1 | r2 = r0 + r1 | out r2":                        3,
		"in 1 regs 3 | r1 = r0 | r1 = r1 | r2 = r1 + r0 | out r2":                        3,
		"in 1 regs 3 | r1 = r0 | r1 = r1 | r2 = r0 - r1 | r1 = r0 | out r2 r1":           3,
		"in 1 regs 3 | r1 = r0 * 2 | r1 = r1 / 3 | r1 = r1 << 4 | r1 = r1 >> 5 | out r1": 4,
		"in 1 regs 3 | r0 = -r0 | r0 = -r0 | r1 = -r2 | out r1":                          1,
		"in 2 regs 2 | r0 = r1 | r1 = r0 | r0 = r1 | r1 = r0 | out r0":                   3,
		"in 1 regs 4 | r1 = r0 + r0 | r2 = r1 + r1 | r3 = r2 + r2 | r1 = r0 | out r1 r2": 2,
	} {
		if got, e := prog.Depth(read(t, text)); got != want || e != api.OK {
			t.Errorf("Depth of %s: %d, %v", text, got, e)
		}
	}
	if got, e := prog.Depth(plain(1, 1, mostCode, 1)); got != mostCode || e != api.OK {
		t.Errorf("Depth: %d, %v", got, e)
	}
}

// deep is the depth of a register ahead of the instruction k, by what set it last.
func deep(p api.Prog, r, k int) int {
	for m := k - 1; m >= 0; m-- {
		i := p.Code[m]
		if i.To != r {
			continue
		}
		d := deep(p, i.A, m)
		if i.Op == add || i.Op == sub {
			d = max(d, deep(p, i.B, m))
		}
		return d + 1
	}
	return 0
}

// P8.4
func TestDepthMany(t *testing.T) {
	for _, p := range some(600) {
		want := 0
		for _, r := range p.Outs {
			want = max(want, deep(p, r, len(p.Code)))
		}
		if got, e := prog.Depth(p); got != want || e != api.OK {
			t.Errorf("Depth of %s: %d, %v, not %d", show(p), got, e, want)
		}
	}
}

// P8.6
func TestBack(t *testing.T) {
	for _, p := range append(some(200), plain(1, 1, mostCode, 1)) {
		at := len(p.Code)
		for k, i := range prog.Back(p) {
			at--
			if k != at || i != p.Code[at] {
				t.Fatalf("Back of %s: %d, %v", show(p), k, i)
			}
		}
		if at != 0 {
			t.Errorf("Back of %s ends at %d", show(p), at)
		}
	}
}

// P8.6, R6: left behind each instruction, and gone through again.
func TestBackLeftEarly(t *testing.T) {
	for _, p := range some(60) {
		back := prog.Back(p)
		for n := 1; n <= len(p.Code); n++ {
			told := 0
			for k, i := range back {
				told++
				if k != len(p.Code)-told || i != p.Code[k] {
					t.Fatalf("Back of %s: %d, %v", show(p), k, i)
				}
				if told == n {
					break
				}
			}
			if told != n {
				t.Errorf("Back of %s, left behind %d: %d", show(p), n, told)
			}
			calls := 0
			back(func(int, api.Instr) bool { calls++; return calls < n })
			if calls != n {
				t.Errorf("Back of %s, told to end: %d calls, not %d", show(p), calls, n)
			}
		}
	}
}

// R6: one iterator, gone through within itself.
func TestBackWithinItself(t *testing.T) {
	p := plain(1, 1, 5, 1)
	back := prog.Back(p)
	var told []int
	for k := range back {
		for m := range back {
			told = append(told, 10*k+m)
			if m == k {
				break
			}
		}
	}
	if !slices.Equal(told, []int{44, 34, 33, 24, 23, 22, 14, 13, 12, 11, 4, 3, 2, 1, 0}) {
		t.Errorf("%v", told)
	}
}

// R3, R6: what was handed in is not kept: writing into it later, or meanwhile, changes nothing.
func TestBackOfWhatChanges(t *testing.T) {
	p := example()
	back := prog.Back(p)
	p.Code[1] = api.Instr{}
	want := example().Code
	for range 2 {
		at := 2
		for k, i := range back {
			at--
			if k != at || i != want[at] {
				t.Errorf("%d, %v", k, i)
			}
			p.Code[0] = in(shr, 9, 9, 9, 9)
		}
		if at != 0 {
			t.Errorf("ends at %d", at)
		}
	}
	p = api.Prog{Ins: 1, Regs: 1, Code: []api.Instr{{}}, Outs: []int{0}}
	none := prog.Back(p)
	p.Code[0] = in(move, 0, 0, 0, 0)
	for k, i := range none {
		t.Errorf("of a program that might not be: %d, %v", k, i)
	}
}
