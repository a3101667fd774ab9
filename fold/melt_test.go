package fold_test

import (
	"math/big"
	"testing"

	"swage/api"
	"swage/fold"
)

// holds asks what Melt answers of two lines; want is "", if they do not melt.
func holds(t *testing.T, one, two, want string) {
	t.Helper()
	w := api.Instr{}
	if want != "" {
		w = line(t, want)
	}
	if i, ok := fold.Melt(line(t, one), line(t, two)); i != w || ok != (want != "") {
		t.Errorf("Melt of %s and %s: %v, %v, not %q", one, two, i, ok, want)
	}
}

// P13.2: the chapter's examples.
func TestMelt(t *testing.T) {
	holds(t, "r1 = r0 * 6", "r1 = r1 / 3", "r1 = r0 << 1")
	holds(t, "r1 = r0 * 6", "r1 = r1 / 4", "")
	holds(t, "r1 = r0 * 3", "r1 = r1 / -6", "r1 = r0 / -2")
	for _, two := range []string{"r1 = r1", "r1 = -r1", "r1 = r1 + r1", "r1 = r1 * 6", "r1 = r1 / 3", "r1 = r1 << 1", "r1 = r1 >> 1", "r1 = r1 / 2"} {
		holds(t, "r1 = r0 / 2", two, "")
	}
	holds(t, "r1 = r0 >> 1", "r1 = r1 << 1", "")
	holds(t, "r1 = r0", "r1 = r1 + r2", "")
	holds(t, "r1 = -r0", "r1 = -r1", "r1 = r0")
	holds(t, "r1 = r0 << 3", "r1 = r1 >> 5", "r1 = r0 >> 2")
}

// P13.2: each pair of the table, written out; constants and products at their limits, and one step above.
func TestMeltTable(t *testing.T) {
	for _, x := range [][3]string{
		{"r1 = r0", "r1 = r1", "r1 = r0"}, {"r1 = r0", "r1 = -r1", "r1 = -r0"}, {"r1 = r0", "r1 = r1 * -512", "r1 = r0 * -512"}, {"r1 = r0", "r1 = r1 / 3", "r1 = r0 / 3"}, {"r1 = r0", "r1 = r1 << 64", "r1 = r0 << 64"}, {"r1 = r0", "r1 = r1 >> 1", "r1 = r0 >> 1"}, {"r1 = r1", "r1 = r1", "r1 = r1"}, {"r1 = r1", "r1 = r1 / 5", "r1 = r1 / 5"},
		{"r1 = -r0", "r1 = r1", "r1 = -r0"}, {"r1 = -r1", "r1 = -r1", "r1 = r1"}, {"r1 = -r0", "r1 = r1 * 6", "r1 = r0 * -6"}, {"r1 = -r0", "r1 = r1 * -6", "r1 = r0 * 6"}, {"r1 = -r0", "r1 = r1 * -512", "r1 = r0 << 9"}, {"r1 = -r0", "r1 = r1 * -2", "r1 = r0 << 1"}, {"r1 = -r0", "r1 = r1 / 3", "r1 = r0 / -3"}, {"r1 = -r0", "r1 = r1 / -3", "r1 = r0 / 3"}, {"r1 = -r0", "r1 = r1 / -512", "r1 = r0 >> 9"},
		{"r1 = r0 * 6", "r1 = -r1", "r1 = r0 * -6"}, {"r1 = r0 * -4", "r1 = -r1", "r1 = r0 << 2"}, {"r1 = r0 * 511", "r1 = -r1", "r1 = r0 * -511"}, {"r1 = r0 / 6", "r1 = -r1", "r1 = r0 / -6"}, {"r1 = r0 / -4", "r1 = -r1", "r1 = r0 >> 2"}, {"r1 = r0 / -512", "r1 = -r1", "r1 = r0 >> 9"},
		{"r1 = r0 * 6", "r1 = r1 * 7", "r1 = r0 * 42"}, {"r1 = r0 * 7", "r1 = r1 * 73", "r1 = r0 * 511"}, {"r1 = r0 * -7", "r1 = r1 * 73", "r1 = r0 * -511"}, {"r1 = r0 * 27", "r1 = r1 * 19", ""}, {"r1 = r0 * 27", "r1 = r1 * -19", ""}, {"r1 = r0 * -27", "r1 = r1 * 19", ""}, {"r1 = r0 * -27", "r1 = r1 * -19", ""}, {"r1 = r0 * -16", "r1 = r1 * -32", "r1 = r0 << 9"}, {"r1 = r0 * -256", "r1 = r1 * -2", "r1 = r0 << 9"}, {"r1 = r0 * 512", "r1 = r1 * 3", ""}, {"r1 = r0 * -512", "r1 = r1 * -512", ""}, {"r1 = r0 * -2", "r1 = r1 * -2", "r1 = r0 << 2"}, {"r1 = r0 * -2", "r1 = r1 * 255", "r1 = r0 * -510"}, {"r1 = r0 * -2", "r1 = r1 * 257", ""},
		{"r1 = r0 / 6", "r1 = r1 / 7", "r1 = r0 / 42"}, {"r1 = r0 / 7", "r1 = r1 / 73", "r1 = r0 / 511"}, {"r1 = r0 / 7", "r1 = r1 / -73", "r1 = r0 / -511"}, {"r1 = r0 / 27", "r1 = r1 / 19", ""}, {"r1 = r0 / 27", "r1 = r1 / -19", ""}, {"r1 = r0 / -27", "r1 = r1 / -19", ""}, {"r1 = r0 / -16", "r1 = r1 / -32", "r1 = r0 >> 9"}, {"r1 = r0 / -512", "r1 = r1 / -512", ""}, {"r1 = r0 / -2", "r1 = r1 / 3", "r1 = r0 / -6"},
		{"r1 = r0 * 6", "r1 = r1 / 6", "r1 = r0"}, {"r1 = r0 * 6", "r1 = r1 / -6", "r1 = -r0"}, {"r1 = r0 * -512", "r1 = r1 / -512", "r1 = r0"}, {"r1 = r0 * -512", "r1 = r1 / -256", "r1 = r0 << 1"}, {"r1 = r0 * -256", "r1 = r1 / -512", "r1 = r0 >> 1"}, {"r1 = r0 * -6", "r1 = r1 / 3", "r1 = r0 * -2"}, {"r1 = r0 * 510", "r1 = r1 / 30", "r1 = r0 * 17"}, {"r1 = r0 * 30", "r1 = r1 / 510", "r1 = r0 / 17"}, {"r1 = r0 * 3", "r1 = r1 / 6", "r1 = r0 >> 1"}, {"r1 = r0 * -3", "r1 = r1 / -384", "r1 = r0 >> 7"}, {"r1 = r0 * 6", "r1 = r1 / 9", ""}, {"r1 = r0 * 9", "r1 = r1 / 6", ""}, {"r1 = r0 * 5", "r1 = r1 / 3", ""}, {"r1 = r0 * 511", "r1 = r1 / 510", ""},
		{"r1 = r0 << 1", "r1 = r1 << 1", "r1 = r0 << 2"}, {"r1 = r0 << 63", "r1 = r1 << 1", "r1 = r0 << 64"}, {"r1 = r0 << 63", "r1 = r1 << 2", ""}, {"r1 = r0 << 64", "r1 = r1 << 1", ""}, {"r1 = r0 << 64", "r1 = r1 << 64", ""}, {"r1 = r0 << 32", "r1 = r1 << 32", "r1 = r0 << 64"}, {"r1 = r0 << 33", "r1 = r1 << 32", ""},
		{"r1 = r0 >> 1", "r1 = r1 >> 1", "r1 = r0 >> 2"}, {"r1 = r0 >> 1", "r1 = r1 >> 63", "r1 = r0 >> 64"}, {"r1 = r0 >> 2", "r1 = r1 >> 63", ""}, {"r1 = r0 >> 1", "r1 = r1 >> 64", ""}, {"r1 = r0 >> 64", "r1 = r1 >> 64", ""},
		{"r1 = r0 << 1", "r1 = r1 >> 1", "r1 = r0"}, {"r1 = r0 << 64", "r1 = r1 >> 64", "r1 = r0"}, {"r1 = r0 << 64", "r1 = r1 >> 1", "r1 = r0 << 63"}, {"r1 = r0 << 64", "r1 = r1 >> 63", "r1 = r0 << 1"}, {"r1 = r0 << 1", "r1 = r1 >> 64", "r1 = r0 >> 63"}, {"r1 = r0 << 63", "r1 = r1 >> 64", "r1 = r0 >> 1"}, {"r127 = r126 << 2", "r127 = r127 >> 1", "r127 = r126 << 1"},
	} {
		holds(t, x[0], x[1], x[2])
	}
}

// P13.2: pairs that the table does not name do not melt.
func TestMeltNotNamed(t *testing.T) {
	sorts := map[int][]string{
		move: {"r1 = r1"}, neg: {"r1 = -r1"}, add: {"r1 = r1 + r0", "r1 = r0 + r1"}, sub: {"r1 = r1 - r0", "r1 = r1 - r1", "r1 = r0 - r1"},
		mul: {"r1 = r1 * 3", "r1 = r1 * -2", "r1 = r1 * -512"}, div: {"r1 = r1 / 3", "r1 = r1 / -2", "r1 = r1 / -512"}, shl: {"r1 = r1 << 1", "r1 = r1 << 64"}, shr: {"r1 = r1 >> 1", "r1 = r1 >> 64"},
	}
	named := table()
	count := 0
	for first := move; first <= shr; first++ {
		for second := move; second <= shr; second++ {
			if named[[2]int{first, second}] != nil || first == move && second != add && second != sub {
				continue
			}
			count++
			for _, one := range sorts[first] {
				for _, two := range sorts[second] {
					holds(t, one, two, "")
				}
			}
		}
	}
	if count != 64-12-6 {
		t.Errorf("%d pairs are not named", count)
	}
}

// plainForms are all instructions of one register that are their own plain forms, x asked and r1 set, and of both sorts that ask two.
func plainForms(x int) []api.Instr {
	var l []api.Instr
	for op := move; op <= shr; op++ {
		for _, c := range constants(op) {
			i := in(op, 1, x, 0, c)
			if op == add || op == sub {
				i.B = 3
			}
			if plainOf(i) == i {
				l = append(l, i)
			}
		}
	}
	return l
}

// factor is what an instruction that asks one register multiplies by.
func factor(i api.Instr) *big.Rat {
	c, power := big.NewRat(int64(i.C), 1), new(big.Rat).SetInt(new(big.Int).Lsh(big.NewInt(1), uint(max(i.C, 0))))
	switch i.Op {
	case neg:
		return big.NewRat(-1, 1)
	case mul:
		return c
	case div:
		return c.Inv(c)
	case shl:
		return power
	case shr:
		return power.Inv(power)
	}
	return big.NewRat(1, 1)
}

// P13.2: every two plain forms, with all constants; what comes multiplies by what both do.
func TestMeltAll(t *testing.T) {
	m := melter(table())
	melts, apart := 0, 0
	for _, a := range plainForms(2) {
		for _, b := range plainForms(1) {
			got, ok := fold.Melt(a, b)
			if want, melt := m.meltOf(a, b); got != want || ok != melt {
				t.Fatalf("Melt of %v and %v: %v, %v, not %v, %v", a, b, got, ok, want, melt)
			}
			if !ok {
				apart++
				continue
			}
			melts++
			if both := new(big.Rat).Mul(factor(a), factor(b)); both.Cmp(factor(got)) != 0 {
				t.Fatalf("Melt of %v and %v: %v, which is by %v, not by %v", a, b, got, factor(got), both)
			}
			if again, turned := fold.Plain(got); again != got || turned {
				t.Fatalf("Melt of %v and %v: %v, which is not plain", a, b, got)
			}
		}
	}
	if melts < 30000 || apart < 1000000 {
		t.Errorf("%d melt, %d do not", melts, apart)
	}
}

// P13.2, P13.4: what comes sets what both set, one behind the other, and fails on the numbers on which one of both fails.
func TestMeltDoesTheSame(t *testing.T) {
	m := maker(132)
	fine, failing := 0, 0
	for n, a := range plainForms(2) {
		for k, b := range plainForms(1) {
			if (n+k)%5 != 0 {
				continue
			}
			got, ok := fold.Melt(a, b)
			if !ok {
				continue
			}
			for range 3 {
				x := m.numbers(1)[0]
				once, twice := result(got, x, nil), result(a, x, nil)
				if twice != nil {
					twice = result(b, twice, nil)
				}
				if (once == nil) != (twice == nil) || once != nil && once.Cmp(twice) != 0 {
					t.Fatalf("%v and %v set %v, %v sets %v, of %v", a, b, twice, got, once, x)
				}
				if once == nil {
					failing++
				} else {
					fine++
				}
			}
		}
	}
	if fine < 3000 || failing < 3000 {
		t.Errorf("%d go, %d fail", fine, failing)
	}
}

// P13.2: registers that are the same and that are not, in every way, of every two sorts; the last one among them.
func TestMeltRegisters(t *testing.T) {
	m := melter(table())
	regs := []int{0, 1, 126, 127}
	var l []api.Instr
	for op := move; op <= shr; op++ {
		for _, to := range regs {
			for _, a := range regs {
				for _, c := range map[int][]int{mul: {-6, 3}, div: {-6, 3}, shl: {1, 40}, shr: {1, 40}, move: {0}, neg: {0}}[op] {
					l = append(l, in(op, to, a, 0, c))
				}
				for _, b := range regs {
					if op == sub || op == add && a != b {
						l = append(l, in(op, to, a, b, 0))
					}
				}
			}
		}
	}
	melts := 0
	for _, a := range l {
		for _, b := range l {
			got, ok := fold.Melt(a, b)
			if want, melt := m.meltOf(a, b); got != want || ok != melt {
				t.Errorf("Melt of %v and %v: %v, %v, not %v, %v", a, b, got, ok, want, melt)
			}
			if ok {
				melts++
				if got.To != a.To || got.A != a.A || got.B != 0 {
					t.Errorf("Melt of %v and %v: %v", a, b, got)
				}
			}
		}
	}
	if melts < 500 {
		t.Errorf("%d melt", melts)
	}
}

// P13.2, R1: none melts of which one may be in no program, or is not its own plain form.
func TestMeltOfNone(t *testing.T) {
	odd := stray()
	for _, x := range []int{0, 1} {
		odd = append(odd, in(add, 1, x, x, 0))
		for c := range powers() {
			odd = append(odd, in(mul, 1, x, 0, c), in(div, 1, x, 0, c))
		}
		for _, c := range []int{1, -1} {
			odd = append(odd, in(mul, 1, x, 0, c), in(div, 1, x, 0, c))
		}
	}
	var fine []api.Instr
	for op := move; op <= shr; op++ {
		for _, c := range edges(op) {
			fine = append(fine, in(op, 1, 0, 0, c), in(op, 1, 1, 0, c), in(op, 0, 0, 0, c), in(op, 127, 127, 0, c))
		}
	}
	for _, a := range odd {
		for _, b := range append(fine, odd...) {
			for _, pair := range [][2]api.Instr{{a, b}, {b, a}} {
				if got, ok := fold.Melt(pair[0], pair[1]); got != (api.Instr{}) || ok {
					t.Errorf("Melt of %v: %v, %v", pair, got, ok)
				}
			}
		}
	}
}
