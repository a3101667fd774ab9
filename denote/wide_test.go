package denote_test

import (
	"math/big"
	"slices"
	"testing"

	"swage/api"
	"swage/denote"
	"swage/integer"
	"swage/ratio"
)

// power is 2 to the n.
func power(n int) *big.Int { return new(big.Int).Lsh(big.NewInt(1), uint(n)) }

// turning are instructions on r0, the last of which is at the limit, and the same with a last one that is one bit above it.
func turning() map[string][2][]api.Instr {
	with := func(code []api.Instr, last, next api.Instr) [2][]api.Instr {
		return [2][]api.Instr{append(slices.Clone(code), last), append(slices.Clone(code), next)}
	}
	l := map[string][2][]api.Instr{}
	for name, op := range map[string]int{"Num": shl, "Den": shr} {
		far, near := shifted(op, mostBits-64), shifted(op, mostBits-10)
		l[name+", shifted"] = with(far, in(op, 0, 0, 0, 63), in(op, 0, 0, 0, 64))
		l[name+", shifted by one"] = with(shifted(op, mostBits-2), in(op, 0, 0, 0, 1), in(op, 0, 0, 0, 2))
		l[name+", below 0"] = with(append([]api.Instr{in(neg, 0, 0, 0, 0)}, far...), in(op, 0, 0, 0, 63), in(op, 0, 0, 0, 64))
		by := op - 2 // OpMul of OpShl, OpDiv of OpShr
		l[name+", by a power of two"] = with(near, in(by, 0, 0, 0, 512), in(op, 0, 0, 0, 10))
		l[name+", by a power of two below 0"] = with(near, in(by, 0, 0, 0, -512), in(op, 0, 0, 0, 10))
		l[name+", by 511"] = with(shifted(op, mostBits-9), in(by, 0, 0, 0, 511), in(by, 0, 0, 0, 512))
		l[name+", by -511"] = with(shifted(op, mostBits-9), in(by, 0, 0, 0, -511), in(by, 0, 0, 0, -512))
		l[name+", without shifts"] = with(times(7284, in(by, 0, 0, 0, 511)), in(move, 0, 0, 0, 0), in(by, 0, 0, 0, 2))
	}
	l["Num, summed"] = with(append(shifted(shl, mostBits-2), in(move, 1, 0, 0, 0), in(shl, 0, 0, 0, 1)), in(add, 0, 0, 1, 0), in(add, 0, 0, 0, 0))
	l["Num, summed below 0"] = with(append(append([]api.Instr{in(neg, 0, 0, 0, 0)}, shifted(shl, mostBits-2)...), in(neg, 1, 0, 0, 0), in(shl, 0, 0, 0, 1)), in(sub, 0, 0, 1, 0), in(add, 0, 0, 0, 0))
	l["Den, summed"] = with(append([]api.Instr{in(div, 1, 0, 0, 3)}, shifted(shr, mostBits-2)...), in(add, 0, 0, 1, 0), in(shr, 0, 0, 0, 2))
	l["Den, taken away"] = with(append([]api.Instr{in(div, 1, 0, 0, 5)}, shifted(shr, mostBits-3)...), in(sub, 0, 1, 0, 0), in(shr, 0, 0, 0, 3))
	return l
}

// widest is how many bits the widest part of these numbers has.
func widest(l []*big.Rat) int {
	most := 0
	for _, v := range l {
		most = max(most, v.Num().BitLen(), v.Denom().BitLen())
	}
	return most
}

// P9.1, P9.2: a fraction with exactly MaxBits bits goes, one with one more does not.
func TestTurning(t *testing.T) {
	for name, code := range turning() {
		for k, bits := range []int{mostBits, mostBits + 1} {
			p := alone(code[k]...)
			want := meant(p)
			if got := widest(want.steps[len(p.Code)-1]); got != bits || want.narrow != len(p.Code)-k {
				t.Fatalf("%s: %d bits at the end, %d of %d not too wide", name, got, want.narrow, len(p.Code))
			}
			compare(t, p)
		}
	}
}

// P9.4, P9.5: so it is for the calls that ask what a program denotes.
func TestTurningForAll(t *testing.T) {
	for _, name := range []string{"Num, shifted", "Den, shifted", "Num, below 0", "Den, summed"} {
		narrow, wide := alone(turning()[name][0]...), alone(turning()[name][1]...)
		m, d, e := denote.Matrix(narrow)
		if e != api.OK || m.Rows() != 2 || m.Cols() != 1 {
			t.Errorf("%s: Matrix: %d rows, %v", name, m.Rows(), e)
		}
		same, f := denote.Same(narrow, narrow)
		is, g := denote.Is(narrow, m, d)
		if !same || !is || f != api.OK || g != api.OK {
			t.Errorf("%s: Same, Is: %v, %v, %v, %v", name, same, is, f, g)
		}
		none, zero, e := denote.Matrix(wide)
		same, f = denote.Same(narrow, wide)
		is, g = denote.Is(wide, m, d)
		if none.Rows() != 0 || zero.Sign() != 0 || same || is || e != api.ErrLong || f != api.ErrLong || g != api.ErrLong {
			t.Errorf("%s, one bit more: %v, %v, %v", name, e, f, g)
		}
	}
}

// P9.1, P9.2: what is in lowest terms is asked, and not what it is reckoned by.
func TestNarrowInLowestTerms(t *testing.T) {
	code := append(shifted(shl, mostBits-1), in(div, 0, 0, 0, 3), in(mul, 0, 0, 0, 3), in(div, 0, 0, 0, 512), in(mul, 0, 0, 0, 511))
	code = append(code, in(sub, 0, 0, 0, 0), in(shl, 0, 0, 0, 64), in(div, 0, 0, 0, 511))
	other := append(shifted(shr, mostBits-1), in(mul, 0, 0, 0, 3), in(shl, 0, 0, 0, 64), in(shr, 0, 0, 0, 64), in(add, 0, 0, 0, 0), in(sub, 0, 0, 0, 0))
	for _, p := range []api.Prog{alone(code...), alone(other...)} {
		compare(t, p)
		if rows, e := denote.Rows(p); toldAll(rows) != "0; 0" || e != api.OK {
			t.Errorf("Rows of %s: %v", show(p), e)
		}
	}
}

// P9.1, P9.2: the first instruction that is too wide stands in the middle, is the last one, or is not needed; one place of many is enough.
func TestWideAnywhere(t *testing.T) {
	up := shifted(shl, mostBits)
	set := in(move, 0, 1, 0, 0)
	for name, p := range map[string]api.Prog{
		"the last one":            {Ins: 1, Regs: 1, Code: up, Outs: []int{0}},
		"in the middle":           {Ins: 1, Regs: 2, Code: append(slices.Clone(up), times(5, in(shr, 0, 0, 0, 64))...), Outs: []int{0}},
		"two of them":             {Ins: 1, Regs: 2, Code: append(slices.Clone(up), in(neg, 0, 0, 0, 0), set, in(neg, 0, 0, 0, 0)), Outs: []int{0}},
		"not needed, never asked": {Ins: 2, Regs: 2, Code: append(slices.Clone(up), in(move, 1, 1, 0, 0)), Outs: []int{1}},
		"not needed, set anew":    {Ins: 2, Regs: 2, Code: append(slices.Clone(up), set), Outs: []int{0}},
		"the last one, a Den":     {Ins: 2, Regs: 3, Code: shifted(shr, mostBits), Outs: []int{1}},
		"at the last place":       {Ins: 3, Regs: 3, Code: append([]api.Instr{in(move, 0, 2, 0, 0)}, up...), Outs: []int{1, 2}},
		"at a place in between":   {Ins: 3, Regs: 3, Code: append([]api.Instr{in(move, 0, 1, 0, 0)}, up...), Outs: []int{1, 2}},
	} {
		want := meant(p)
		if want.narrow == len(p.Code) {
			t.Fatalf("%s: nothing is too wide", name)
		}
		compare(t, p)
		if rows, e := denote.Rows(p); len(rows) != 0 || e != api.ErrLong {
			t.Errorf("%s: Rows: %d, %v", name, len(rows), e)
		}
	}
}

// P9.2, R6: steps end ahead of what is too wide each time, and may be left there.
func TestStepsEndAheadOfWide(t *testing.T) {
	p := wide(2, 1)
	p.Code = append(p.Code, in(move, 0, 1, 0, 0), in(move, 1, 0, 0, 0))
	steps := denote.Steps(p)
	for _, n := range []int{mostBits/64 - 1, 1, mostBits/64 - 2, mostBits/64 - 1} {
		at := 0
		for k := range steps {
			if k != at {
				t.Fatalf("the step %d is told as %d", at, k)
			}
			at++
			if at == n {
				break
			}
		}
		if at != n {
			t.Errorf("%d steps, not %d", at, n)
		}
	}
	calls := 0
	steps(func(int, []ratio.Rat) bool { calls++; return true })
	if calls != mostBits/64-1 {
		t.Errorf("%d steps", calls)
	}
}

// P9.3: numbers of MaxBits bits and more are held as they are; an instruction that sets such a one is too wide.
func TestApplyWide(t *testing.T) {
	most := new(big.Int).Sub(power(mostBits), big.NewInt(1))
	more, huge := power(mostBits), power(3*mostBits)
	minus := new(big.Int).Neg(more)
	for name, x := range map[string]struct {
		p  api.Prog
		in []*big.Int
		e  api.Errno
	}{
		"at the limit, moved":              {alone(in(move, 1, 0, 0, 0)), []*big.Int{most}, api.OK},
		"at the limit, its sign turned":    {alone(in(neg, 1, 0, 0, 0)), []*big.Int{most}, api.OK},
		"at the limit, halved":             {alone(in(div, 1, 0, 0, 2)), []*big.Int{most}, api.OK},
		"at the limit, doubled":            {alone(in(shl, 1, 0, 0, 1)), []*big.Int{most}, api.ErrLong},
		"at the limit, times one":          {alone(in(mul, 1, 0, 0, -1)), []*big.Int{most}, api.OK},
		"at the limit, times two":          {alone(in(mul, 1, 0, 0, 2)), []*big.Int{most}, api.ErrLong},
		"at the limit, summed":             {alone(in(add, 1, 0, 0, 0)), []*big.Int{most}, api.ErrLong},
		"above it, by no instruction":      {alone(), []*big.Int{more}, api.OK},
		"far above it, by no instruction":  {alone(), []*big.Int{huge}, api.OK},
		"below 0, by no instruction":       {alone(), []*big.Int{minus}, api.OK},
		"above it, never asked":            {alone(in(move, 1, 1, 0, 0)), []*big.Int{more}, api.OK},
		"above it, moved":                  {alone(in(move, 1, 0, 0, 0)), []*big.Int{more}, api.ErrLong},
		"above it, below 0, moved":         {alone(in(move, 1, 0, 0, 0)), []*big.Int{minus}, api.ErrLong},
		"above it, halved":                 {alone(in(shr, 1, 0, 0, 1)), []*big.Int{more}, api.OK},
		"above it, by three":               {alone(in(div, 1, 0, 0, 3)), []*big.Int{more}, api.ErrLong},
		"above it, less itself":            {alone(in(sub, 1, 0, 0, 0)), []*big.Int{huge}, api.OK},
		"above it, the first of three":     {alone(in(move, 1, 0, 0, 0), in(sub, 1, 0, 0, 0), in(sub, 0, 0, 0, 0)), []*big.Int{more}, api.ErrLong},
		"above it, in the middle":          {alone(in(shr, 1, 0, 0, 1), in(shl, 1, 1, 0, 1), in(shr, 1, 1, 0, 1)), []*big.Int{more}, api.ErrLong},
		"above it, the last one":           {alone(in(shr, 1, 0, 0, 1), in(shl, 1, 1, 0, 1)), []*big.Int{more}, api.ErrLong},
		"0, however far it is shifted":     {wide(1, 1), []*big.Int{new(big.Int)}, api.OK},
		"1, shifted too far":               {wide(1, 1), []*big.Int{big.NewInt(1)}, api.ErrLong},
		"-1, shifted too far":              {wide(1, 1), []*big.Int{big.NewInt(-1)}, api.ErrLong},
		"a row that is too wide, no value": {wide(2, 2), []*big.Int{new(big.Int), most}, api.OK},
		"1, shifted down too far":          {alone(shifted(shr, mostBits)...), []*big.Int{big.NewInt(1)}, api.ErrLong},
		"2, shifted down just so far":      {alone(shifted(shr, mostBits)...), []*big.Int{big.NewInt(2)}, api.OK},
		"two that are one, less each other": {api.Prog{Ins: 2, Regs: 2, Code: append([]api.Instr{in(sub, 0, 0, 1, 0)}, shifted(shl, mostBits)...), Outs: []int{0}},
			[]*big.Int{huge, huge}, api.OK},
		"two that differ by one": {api.Prog{Ins: 2, Regs: 2, Code: append([]api.Instr{in(sub, 0, 0, 1, 0)}, shifted(shl, mostBits)...), Outs: []int{1}},
			[]*big.Int{more, most}, api.ErrLong},
	} {
		set, want := trace(x.p, wholes(x.in))
		if (narrow(set) == len(set)) != (x.e == api.OK) {
			t.Fatalf("%s: %d of %d are not too wide", name, narrow(set), len(set))
		}
		l, e := denote.Apply(x.p, integers(x.in))
		if e != x.e || e == api.OK && !sayAll(l, want) || e != api.OK && len(l) != 0 {
			t.Errorf("%s: %d, %v", name, len(l), e)
		}
	}
}

// P9.4, P9.5, R2: which of two errors is told, and nothing beside it.
func TestWhichError(t *testing.T) {
	long, bad := wide(17, 17), plain(0, 1, 1)
	if m, d, e := denote.Matrix(long); m.Rows() != 0 || d.Sign() != 0 || e != api.ErrLong {
		t.Errorf("Matrix of what is too wide, and too great: %v", e)
	}
	for _, x := range [][2]api.Prog{{long, long}, {long, example()}, {example(), long}, {wide(1, 1), plain(2, 2, 1)}, {plain(1, 1, 2), wide(1, 1)}} {
		if same, e := denote.Same(x[0], x[1]); same || e != api.ErrLong {
			t.Errorf("Same of %s, %s: %v, %v", show(x[0]), show(x[1]), same, e)
		}
	}
	for _, m := range []string{"[]", "[[1]]", "[[1 0] [0 1]]"} {
		for p, want := range map[*api.Prog]api.Errno{&long: api.ErrLong, &bad: api.ErrProg} {
			if is, e := denote.Is(*p, grid(t, m), of(-3)); is || e != want {
				t.Errorf("Is of %s, %s: %v, %v", show(*p), m, is, e)
			}
			if is, e := denote.Is(*p, grid(t, m), integer.Make(true, []uint32{0})); is || e != api.ErrArg {
				t.Errorf("Is of %s, %s over 0: %v, %v", show(*p), m, is, e)
			}
		}
	}
	if l, e := denote.Apply(long, list(1)); len(l) != 0 || e != api.ErrRange {
		t.Errorf("Apply of what is too wide to too few: %v", e)
	}
}
