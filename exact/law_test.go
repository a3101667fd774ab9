package exact_test

import (
	"fmt"
	"math/big"
	"slices"
	"strings"
	"testing"

	"swage/api"
	"swage/exact"
	"swage/integer"
	"swage/prog"
	"swage/row"
)

// column is what a grid has at a place of each row.
func column(grid [][]integer.Int, j int) []integer.Int {
	var l []integer.Int
	for _, a := range grid {
		l = append(l, a[j])
	}
	return l
}

// P10.5: Judge tells the least instruction at which a run on a column fails, OK, if none does.
func TestWholeForAll(t *testing.T) {
	m := maker(55)
	apart := 0 // how often the columns' runs do not all end alike
	for n, p := range some(3000) {
		grid := gridOf(m.grid(p.Ins, 1+n%4))
		least, e := len(p.Code), api.OK
		for j := range grid[0] {
			_, k, f := exact.Run(p, column(grid, j))
			if f == api.ErrExact {
				least = min(least, k)
				e = f
			}
			if f != e || k != least && f != api.OK {
				apart++
			}
		}
		if e == api.OK {
			least = 0
		}
		if k, f := exact.Judge(p, grid); k != least || f != e {
			t.Errorf("Judge of %s over %s: %d, %v, not %d, %v", show(p), toldAll(grid), k, f, least, e)
		}
	}
	if apart < 50 {
		t.Errorf("the columns part in %d of 3000", apart)
	}
}

// P10.6: where Judge tells OK runs on Made go, and answer the Dots of Rows; else none fails ahead of what it tells.
func TestAllOperands(t *testing.T) {
	m := maker(56)
	fine, failing := 0, 0
	for n, p := range some(2000) {
		grid := gridOf(m.grid(p.Ins, n%5))
		judged, e := exact.Judge(p, grid)
		rows, _, _ := exact.Rows(p, grid)
		for range 4 {
			c := integers(m.numbers(n%5, big.NewInt(1)))
			made, f := exact.Made(grid, c)
			outs, k, g := exact.Run(p, made)
			switch {
			case f != api.OK:
				t.Fatalf("Made: %v", f)
			case e == api.ErrExact:
				failing++
				if g == api.ErrExact && k < judged {
					t.Errorf("%s on %s fails at %d, and is judged %d", show(p), told(made), k, judged)
				}
				continue
			case g != api.OK || len(outs) != len(rows):
				t.Fatalf("Run of %s on %s: %d, %v", show(p), told(made), k, g)
			}
			fine++
			for i, l := range rows {
				if dot, _ := row.Dot(l, c); dot.Cmp(outs[i]) != 0 {
					t.Errorf("%s on %s: the out %d is %s, not %s", show(p), told(made), i, one(outs[i]), one(dot))
				}
			}
		}
	}
	if fine < 1000 || failing < 500 {
		t.Errorf("%d are judged fine, %d fail", fine, failing)
	}
}

// P10.7: each row of Steps, and c, have the Dot that Trace of Made tells, as far as both go.
func TestStepsAndTrace(t *testing.T) {
	m := maker(57)
	held := 0
	for n, p := range some(1500) {
		grid := gridOf(m.grid(p.Ins, n%5))
		c := integers(m.numbers(n%5, m.factor()))
		made, _ := exact.Made(grid, c)
		var traced []integer.Int
		for _, x := range exact.Trace(p, made) {
			traced = append(traced, x)
		}
		for k, l := range exact.Steps(p, grid) {
			if k >= len(traced) {
				t.Fatalf("%s: the run on %s ends at %d, ahead of what fails over %s", show(p), told(made), len(traced), toldAll(grid))
			}
			if dot, e := row.Dot(l, c); e != api.OK || dot.Cmp(traced[k]) != 0 {
				t.Errorf("%s: the instruction %d sets %s, not %s", show(p), k, one(traced[k]), one(dot))
			}
			held++
		}
	}
	if held < 3000 {
		t.Errorf("%d steps", held)
	}
}

// roomy is a program whose lists have room behind their ends, in which something stands.
func roomy(p api.Prog) api.Prog {
	p.Code = append(slices.Clone(p.Code), times(40, in(7, 7, 7, 7, 7))...)[:len(p.Code)]
	p.Outs = append(slices.Clone(p.Outs), 7, 7, 7, 7, 7)[:len(p.Outs)]
	return p
}

// roomyRow is a row with room behind its end, in which something stands.
func roomyRow(l []integer.Int) []integer.Int {
	return append(slices.Clone(l), list(-71, -72, -73)...)[:len(l)]
}

// roomyGrid is a grid whose lists have room behind their ends, in which something stands.
func roomyGrid(grid [][]integer.Int) [][]integer.Int {
	var own [][]integer.Int
	for _, l := range grid {
		own = append(own, roomyRow(l))
	}
	return append(own, list(-81, -82), list(-83))[:len(grid)]
}

// state is all that stands in a program, and in the room of its lists.
func state(p api.Prog) string {
	return fmt.Sprint(p.Ins, p.Regs, len(p.Code), p.Code[:cap(p.Code)], len(p.Outs), p.Outs[:cap(p.Outs)])
}

// gridState is all that stands in a grid, and in the room of its lists.
func gridState(grid [][]integer.Int) string {
	var texts []string
	for _, l := range grid[:cap(grid)] {
		texts = append(texts, fmt.Sprint(len(l), ": ", told(l[:cap(l)])))
	}
	return fmt.Sprint(len(grid), " ", texts)
}

// R3: what is handed in stays as it is, the room behind its end too, by every call, and by iterators that are left early.
func TestListsStay(t *testing.T) {
	m := maker(61)
	for n, x := range append(some(150), wrong()...) {
		p := roomy(x)
		grid := roomyGrid(gridOf(m.grid(min(max(x.Ins, 0), 4), n%4)))
		numbers, c := roomyRow(integers(m.numbers(len(grid), m.factor()))), roomyRow(list(5, -6, 7)[:n%4])
		was := []string{state(p), gridState(grid), gridState([][]integer.Int{numbers, c})}
		exact.Run(p, numbers)
		exact.Rows(p, grid)
		exact.Judge(p, grid)
		exact.Widest(p, grid)
		exact.Made(grid, c)
		for range exact.Trace(p, numbers) {
		}
		for range exact.Steps(p, grid) {
		}
		for range exact.Steps(p, grid) {
			break
		}
		if now := []string{state(p), gridState(grid), gridState([][]integer.Int{numbers, c})}; !slices.Equal(now, was) {
			t.Errorf("%q, not %q", now, was)
		}
	}
}

// spoil writes into all memory of a row, behind its end too, where nothing may have stood.
func spoil(t *testing.T, l []integer.Int) {
	t.Helper()
	for k, x := range l[:cap(l)] {
		if k >= len(l) && x.Sign() != 0 {
			t.Errorf("behind the end: %s", one(x))
		}
		l[:cap(l)][k] = of(-99)
	}
}

// R3: the lists that are answered are new memory, each for itself, the room behind their ends too: writing into one changes no other, neither what was handed in nor what is told later.
func TestListsAreNew(t *testing.T) {
	m := maker(62)
	moves := alone(in(move, 1, 0, 0, 0), in(move, 0, 1, 0, 0), in(add, 1, 1, 0, 0), in(move, 0, 1, 0, 0))
	moves.Outs = []int{0, 1, 0, 1}
	for _, p := range append(some(200), plain(1, 1, 7), plain(3, 5, 11), moves) {
		grid := m.grid(p.Ins, 3)
		want, own := followed(p, grid), roomyGrid(gridOf(grid))
		numbers, c := roomyRow(column(own, 0)), list(1, 0, 0)
		was := gridState(own) + gridState([][]integer.Int{numbers, c})
		for range 2 {
			outs, _, _ := exact.Rows(p, own)
			for k, l := range outs {
				if !sayAll(l, want.outs[k]) {
					t.Fatalf("%s: the out %d is %s", show(p), k, told(l))
				}
				spoil(t, l)
			}
			for k, l := range outs[:cap(outs)] {
				if k >= len(outs) && l != nil {
					t.Errorf("behind the end of Rows: %s", told(l))
				}
				outs[:cap(outs)][k] = nil
			}
			for k, l := range exact.Steps(p, own) {
				if !sayAll(l, want.set[k]) {
					t.Fatalf("%s: the step %d is %s", show(p), k, told(l))
				}
				spoil(t, l)
			}
			run, _, _ := exact.Run(p, numbers)
			made, _ := exact.Made(own, c)
			if !sayAll(run, ran(p, columnOf(grid)).outs) || !sayAll(made, columnOf(grid)) {
				t.Fatalf("%s: Run: %s, Made: %s", show(p), told(run), told(made))
			}
			spoil(t, run)
			spoil(t, made)
			if gridState(own)+gridState([][]integer.Int{numbers, c}) != was {
				t.Fatalf("%s: now %s", show(p), toldAll(own))
			}
		}
	}
}

// columnOf is the first column of a grid of another make.
func columnOf(grid [][]*big.Int) []*big.Int {
	var l []*big.Int
	for _, a := range grid {
		l = append(l, a[0])
	}
	return l
}

// R3: rows that were told stay, whatever is told behind them; an answer keeps nothing of what was handed in.
func TestAnswersStay(t *testing.T) {
	m := maker(63)
	for _, p := range some(100) {
		grid := m.grid(p.Ins, 2)
		want, own, mine := followed(p, grid), gridOf(grid), prog.Copy(p)
		var steps [][]integer.Int
		for _, l := range exact.Steps(mine, own) {
			steps = append(steps, l)
		}
		rows, _, _ := exact.Rows(mine, own)
		numbers, c := column(own, 0), list(1, 0)
		outs, _, _ := exact.Run(mine, numbers)
		made, _ := exact.Made(own, c)
		clear(mine.Code)
		clear(mine.Outs)
		clear(numbers)
		clear(c)
		for _, l := range own {
			clear(l)
		}
		clear(own)
		if !slices.EqualFunc(steps, want.set, sayAll) || !slices.EqualFunc(rows, want.outs, sayAll) || !sayAll(outs, ran(p, columnOf(grid)).outs) || !sayAll(made, columnOf(grid)) {
			t.Errorf("%s: now %s; %s; %s; %s", show(p), toldAll(steps), toldAll(rows), told(outs), told(made))
		}
	}
}

// R3, R6: what was handed in is not kept: writing into it later, or meanwhile, changes nothing that an iterator tells.
func TestIteratorsOfWhatChanges(t *testing.T) {
	p, grid, numbers := example(), [][]integer.Int{list(1, 1), list(1, -1)}, list(7, 3)
	steps, trace := exact.Steps(p, grid), exact.Trace(p, numbers)
	p.Code[1] = api.Instr{}
	p.Outs[0] = -1
	grid[0][1] = of(50)
	grid[1] = nil
	numbers[0] = of(60)
	for range 2 {
		var all []string
		for _, l := range steps {
			all = append(all, told(l))
			p.Code[0] = in(shr, 9, 9, 9, 9)
			grid[0][0] = of(70)
		}
		for _, x := range trace {
			all = append(all, one(x))
			numbers[1] = of(80)
		}
		if strings.Join(all, ", ") != "0 2, 0 1, 4, 2" {
			t.Errorf("%q", all)
		}
	}
	p, grid, numbers = alone(api.Instr{}), [][]integer.Int{list(1)}, list(1)
	none, nothing := exact.Steps(p, grid), exact.Trace(p, numbers)
	p.Code[0] = in(move, 0, 0, 0, 0)
	for k, l := range none {
		t.Errorf("of a program that might not be: %d, %s", k, told(l))
	}
	for k, x := range nothing {
		t.Errorf("of a program that might not be: %d, %s", k, one(x))
	}
}

// R5: programs, grids and iterators may be asked by several goroutines at one time.
func TestAtOneTime(t *testing.T) {
	p, grid, numbers := example(), [][]integer.Int{list(1, 1), list(1, -1)}, list(7, 3)
	steps, trace := exact.Steps(p, grid), exact.Trace(p, numbers)
	answers := make(chan string)
	for range 8 {
		go func() {
			s := toldSteps(trace, one) + "; "
			for k, l := range steps {
				s += fmt.Sprint(k, ": ", told(l), ", ")
				l[0] = of(9)
			}
			outs, _, _ := exact.Run(p, numbers)
			rows, _, _ := exact.Rows(p, grid)
			w, _ := exact.Widest(p, grid)
			made, _ := exact.Made(grid, numbers)
			answers <- s + told(outs) + "; " + toldAll(rows) + "; " + one(w) + "; " + told(made)
		}()
	}
	for range 8 {
		if got := <-answers; got != "0: 4, 1: 2; 0: 0 2, 1: 0 1, 2 7; 0 1; 1 1; 2; 10 4" {
			t.Error(got)
		}
	}
}
