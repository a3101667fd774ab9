package order_test

import (
	"fmt"
	"slices"
	"testing"

	"swage/api"
	"swage/dead"
	"swage/fold"
	"swage/order"
	"swage/prog"
	"swage/share"
)

// made is what a pass made, with its name.
type made struct {
	name string
	prog api.Prog
}

// collect is all that Rounds tells of a program.
func collect(p api.Prog) []made {
	var l []made
	for name, q := range order.Rounds(p) {
		l = append(l, made{name, q})
	}
	return l
}

// roundsOf are what the passes make of a program that may be, by the chapter's words, and how many rounds there are.
func roundsOf(t *testing.T, p api.Prog) ([]made, int) {
	t.Helper()
	var l []made
	rounds, changed := 0, true
	now := p
	put := func(name string, pass func(api.Prog) (api.Prog, api.Errno)) {
		q, e := pass(now)
		if e != api.OK {
			t.Fatalf("%s of %s: %v", name, show(now), e)
		}
		l = append(l, made{name, q})
		now = q
	}
	for changed && rounds < 16 {
		was := now
		put("fold", fold.Pass)
		put("share", share.Pass)
		put("dead", dead.Pass)
		changed = !alike(now, was)
		rounds++
	}
	put("pack", order.Pack)
	return l, rounds
}

// sameMade tells whether both are the same names and the same programs.
func sameMade(a, b []made) bool {
	return slices.EqualFunc(a, b, func(x, y made) bool { return x.name == y.name && alike(x.prog, y.prog) })
}

// showMade is what was made, as a failing test tells it.
func showMade(l []made) string {
	s := ""
	for _, x := range l {
		s += fmt.Sprintf("\n%s %s", x.name, show(x.prog))
	}
	return s
}

// holdRounds tells what is wrong, unless Rounds and All of a program tell what the passes make; it answers how many rounds there are.
func holdRounds(t *testing.T, p api.Prog) int {
	t.Helper()
	want, rounds := roundsOf(t, p)
	if l := collect(p); !sameMade(l, want) {
		t.Errorf("Rounds of %s:%s\nnot%s", show(p), showMade(l), showMade(want))
	}
	if q, e := order.All(p); e != api.OK || !alike(q, want[len(want)-1].prog) {
		t.Errorf("All of %s: %s, %v, not %s", show(p), show(q), e, show(want[len(want)-1].prog))
	}
	return rounds
}

// holdTold tells what is wrong, unless Rounds of a program tells these, names and texts in turn, and All the last one.
func holdTold(t *testing.T, text string, told ...string) {
	t.Helper()
	p := read(t, text)
	var want []made
	for k := 0; k < len(told); k += 2 {
		want = append(want, made{told[k], read(t, told[k+1])})
	}
	if l := collect(p); !sameMade(l, want) {
		t.Errorf("Rounds of %s:%s\nnot%s", text, showMade(l), showMade(want))
	}
	if q, e := order.All(p); e != api.OK || !alike(q, want[len(want)-1].prog) {
		t.Errorf("All of %s: %s, %v", text, show(q), e)
	}
}

// P16.3: the chapter's example: a round that changes something, and one that changes nothing.
func TestAllOfTheExample(t *testing.T) {
	holdTold(t, "in 1 regs 5 | r1 = r0 * 1 | r2 = r1 * 2 | r3 = r0 * 2 | r4 = r2 + r3 | out r4",
		"fold", "in 1 regs 5 | r1 = r0 | r2 = r1 << 1 | r3 = r0 << 1 | r4 = r2 + r3 | out r4",
		"share", "in 1 regs 5 | r1 = r0 | r2 = r0 << 1 | r3 = r2 | r4 = r2 + r2 | out r4",
		"dead", "in 1 regs 5 | r2 = r0 << 1 | r4 = r2 + r2 | out r4",
		"fold", "in 1 regs 5 | r2 = r0 << 1 | r4 = r2 << 1 | out r4",
		"share", "in 1 regs 5 | r2 = r0 << 1 | r4 = r2 << 1 | out r4",
		"dead", "in 1 regs 5 | r2 = r0 << 1 | r4 = r2 << 1 | out r4",
		"fold", "in 1 regs 5 | r2 = r0 << 1 | r4 = r2 << 1 | out r4",
		"share", "in 1 regs 5 | r2 = r0 << 1 | r4 = r2 << 1 | out r4",
		"dead", "in 1 regs 5 | r2 = r0 << 1 | r4 = r2 << 1 | out r4",
		"pack", "in 1 regs 1 | r0 = r0 << 1 | r0 = r0 << 1 | out r0",
	)
}

// P16.3: where there is nothing to do one round is told, and Pack, which may have something to do.
func TestNothingToDo(t *testing.T) {
	for _, x := range [][2]string{
		{"in 1 regs 1 | out r0", "in 1 regs 1 | out r0"},
		{"in 2 regs 9 | out r1 r2", "in 2 regs 3 | out r1 r2"},
		{"in 128 regs 128 | out r127 r127 r0", "in 128 regs 128 | out r127 r127 r0"},
		{"in 2 regs 2 | r0 = r0 - r1 | r1 = r0 >> 1 | out r1 r0", "in 2 regs 2 | r0 = r0 - r1 | r1 = r0 >> 1 | out r1 r0"},
		{"in 2 regs 5 | r3 = r0 - r1 | r4 = r3 / 3 | out r4", "in 2 regs 2 | r0 = r0 - r1 | r0 = r0 / 3 | out r0"},
	} {
		holdTold(t, x[0], "fold", x[0], "share", x[0], "dead", x[0], "pack", x[1])
	}
}

// P16.3: where a round is enough a second one is told, which changes nothing; any of the passes may have been the one that changed something.
func TestOneRound(t *testing.T) {
	for _, x := range [][5]string{
		{"in 1 regs 3 | r2 = r0 * 8 | out r2 r0", "in 1 regs 3 | r2 = r0 << 3 | out r2 r0", "in 1 regs 3 | r2 = r0 << 3 | out r2 r0", "in 1 regs 3 | r2 = r0 << 3 | out r2 r0", "in 1 regs 2 | r1 = r0 << 3 | out r1 r0"},
		{"in 2 regs 3 | r1 = r0 | r2 = r1 | out r0", "in 2 regs 3 | r1 = r0 | r2 = r1 | out r0", "in 2 regs 3 | r1 = r0 | r2 = r0 | out r0", "in 2 regs 3 | out r0", "in 2 regs 2 | out r0"},
		{"in 1 regs 3 | r1 = -r0 | r2 = -r0 | out r2", "in 1 regs 3 | r1 = -r0 | r2 = -r0 | out r2", "in 1 regs 3 | r1 = -r0 | r2 = r1 | out r1", "in 1 regs 3 | r1 = -r0 | out r1", "in 1 regs 1 | r0 = -r0 | out r0"},
		{"in 1 regs 3 | r2 = r0 / 7 | out r0", "in 1 regs 3 | r2 = r0 / 7 | out r0", "in 1 regs 3 | r2 = r0 / 7 | out r0", "in 1 regs 3 | out r0", "in 1 regs 1 | out r0"},
		{"in 1 regs 9 | out r7 r0 r8", "in 1 regs 9 | out r7 r0 r8", "in 1 regs 9 | out r1 r0 r1", "in 1 regs 9 | out r1 r0 r1", "in 1 regs 2 | out r1 r0 r1"},
	} {
		holdTold(t, x[0], "fold", x[1], "share", x[2], "dead", x[3], "fold", x[3], "share", x[3], "dead", x[3], "pack", x[4])
	}
}

// ladder is a program of which each round melts the two products of one rung alone: those of the next one are parted by a product that share leaves out only when these are one.
func ladder(rungs int) api.Prog {
	p := api.Prog{Ins: rungs, Regs: 3 * rungs}
	for k := range rungs {
		p.Code = append(p.Code, in(mul, rungs+k, k, 0, 3))
		if k > 0 {
			p.Code = append(p.Code, in(mul, rungs+k-1, k-1, 0, 15))
		}
		p.Code = append(p.Code, in(mul, rungs+k, rungs+k, 0, 5), in(add, 2*rungs+k, rungs+k, k, 0))
		p.Outs = append(p.Outs, rungs+k, 2*rungs+k)
	}
	return p
}

// P16.3: several rounds, up to 16 and no more: of a ladder with so many rungs each round takes one, and a last one changes nothing, if it is not the 17th.
func TestManyRounds(t *testing.T) {
	for rungs := 1; rungs <= 20; rungs++ {
		p := ladder(rungs)
		want := min(rungs+1, 16)
		if rounds := holdRounds(t, p); rounds != want {
			t.Errorf("%d rungs: %d rounds", rungs, rounds)
		}
		l := collect(p)
		if len(l) != 3*want+1 || l[len(l)-1].name != "pack" {
			t.Fatalf("%d rungs: %d are told", rungs, len(l))
		}
		left := 0
		if rungs > 16 {
			left = 2*(rungs-16) - 1 // the 17th rung's two products stand side by side already
		}
		if q := l[len(l)-1].prog; len(q.Code) != 2*rungs+left {
			t.Errorf("%d rungs: %s", rungs, show(q))
		}
	}
}

// P16.3: of programs drawn at random Rounds and All tell what the passes make.
func TestManyPrograms(t *testing.T) {
	count := map[int]int{}
	for _, p := range some(3000) {
		count[min(holdRounds(t, p), 4)]++
	}
	if count[1] < 30 || count[2] < 2000 || count[3] < 500 || count[4] < 30 {
		t.Errorf("so many have so many rounds: %v", count)
	}
}

// P16.3: as many instructions as may be.
func TestLongRounds(t *testing.T) {
	for _, x := range []struct {
		code []api.Instr
		want string
	}{
		{times(mostCode, in(neg, 0, 0, 0, 0)), "in 1 regs 2 | out r0 r1"},
		{times(mostCode, in(mul, 1, 0, 0, 1)), "in 1 regs 1 | out r0 r0"},
		{append(times(mostCode-1, in(shl, 1, 0, 0, 2)), in(shr, 1, 1, 0, 4)), "in 1 regs 2 | r1 = r0 >> 2 | out r0 r1"},
	} {
		p := api.Prog{Ins: 1, Regs: 2, Code: x.code, Outs: []int{0, 1}}
		holdRounds(t, p)
		if q, e := order.All(p); e != api.OK || !alike(q, read(t, x.want)) {
			t.Errorf("All of %s: %s, %v", show(p), show(q), e)
		}
	}
	tower := api.Prog{Ins: 1, Regs: 128, Code: times(mostCode, in(sub, 127, 0, 127, 0)), Outs: []int{127}}
	holdRounds(t, tower)
	if q, e := order.All(tower); e != api.OK || q.Regs != 2 || len(q.Code) != mostCode {
		t.Errorf("All of %s: %s, %v", show(tower), show(q), e)
	}
}

// P16.3, R2: ErrProg of programs that may not be, and nothing beside it; Rounds tells nothing.
func TestRoundsOfNone(t *testing.T) {
	for _, p := range wrong() {
		if q, e := order.All(p); e != api.ErrProg || !alike(q, api.Prog{}) {
			t.Errorf("All of %s: %s, %v", show(p), show(q), e)
		}
		if l := collect(p); len(l) != 0 {
			t.Errorf("Rounds of %s:%s", show(p), showMade(l))
		}
	}
}

// P16.3, R6: Rounds may be left anywhere, also within itself, and tells all when it is gone through again.
func TestRoundsLeftEarly(t *testing.T) {
	for _, p := range append(some(150), ladder(3), ladder(17)) {
		want, _ := roundsOf(t, p)
		told := order.Rounds(p)
		for most := range len(want) + 1 {
			var l []made
			for name, q := range told {
				if len(l) == most {
					break
				}
				l = append(l, made{name, q})
			}
			if !sameMade(l, want[:most]) {
				t.Fatalf("Rounds of %s, left early:%s\nnot%s", show(p), showMade(l), showMade(want[:most]))
			}
		}
		var outer, inner []made
		for name, q := range told {
			outer, inner = append(outer, made{name, q}), nil
			for name, q := range told {
				inner = append(inner, made{name, q})
			}
			if !sameMade(inner, want) {
				t.Fatalf("Rounds of %s within itself:%s\nnot%s", show(p), showMade(inner), showMade(want))
			}
		}
		if !sameMade(outer, want) {
			t.Fatalf("Rounds of %s around itself:%s\nnot%s", show(p), showMade(outer), showMade(want))
		}
	}
}

// R3, R6: Rounds tells of the program as it was handed in, whatever is written into its lists later.
func TestRoundsKeepNothing(t *testing.T) {
	for _, x := range append(some(200), ladder(3)) {
		want, _ := roundsOf(t, x)
		p := roomy(x)
		told := order.Rounds(p)
		clear(p.Code[:cap(p.Code)])
		clear(p.Outs[:cap(p.Outs)])
		for range 2 {
			var l []made
			for name, q := range told {
				l = append(l, made{name, q})
			}
			if !sameMade(l, want) {
				t.Fatalf("Rounds of %s:%s\nnot%s", show(x), showMade(l), showMade(want))
			}
		}
	}
}

// R3: each program that Rounds tells is new memory, the room behind its lists' ends too: writing into it, at once or later, changes neither what was handed in nor what is told behind it, nor what is told when it is gone through again.
func TestToldProgramsAreNew(t *testing.T) {
	for _, x := range append(some(300), ladder(3)) {
		want, _ := roundsOf(t, x)
		p := roomy(x)
		was := state(p)
		told := order.Rounds(p)
		for range 2 {
			var l, copies []made
			for name, q := range told {
				l, copies = append(l, made{name, q}), append(copies, made{name, prog.Copy(q)})
				spoil(t, q)
			}
			if now := state(p); now != was {
				t.Fatalf("%s, not %s", now, was)
			}
			if !sameMade(copies, want) {
				t.Fatalf("Rounds of %s, written into:%s\nnot%s", show(x), showMade(copies), showMade(want))
			}
			for n, y := range l { // none shares memory with another one
				clear(y.prog.Code[:cap(y.prog.Code)])
				clear(y.prog.Outs[:cap(y.prog.Outs)])
				if n+1 < len(l) {
					holdSpoilt(t, l[n+1].prog)
				}
			}
		}
	}
}

// holdSpoilt tells what is wrong, unless a program's lists are as spoil left them.
func holdSpoilt(t *testing.T, p api.Prog) {
	t.Helper()
	if slices.Contains(p.Code, api.Instr{}) || slices.Contains(p.Outs, 0) {
		t.Fatalf("%s shares memory", show(p))
	}
}
