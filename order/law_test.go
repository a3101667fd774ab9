package order_test

import (
	"fmt"
	"slices"
	"testing"

	"swage/api"
	"swage/denote"
	"swage/eval"
	"swage/exact"
	"swage/integer"
	"swage/order"
	"swage/point"
	"swage/prog"
	"swage/row"
	"swage/synth"
)

// answers are what Pack makes of a program, and all that Rounds tells of it.
func answers(t *testing.T, p api.Prog) []made {
	t.Helper()
	return append([]made{{"Pack", packed(t, p)}}, collect(p)...)
}

// P16.4: Pack, and each program that Rounds tells, may be, and run on numbers on which p goes it answers the same; where p fails it fails or goes.
func TestRunsTheSame(t *testing.T) {
	m := maker(164)
	fine, mended, failing := 0, 0, 0
	for _, p := range some(1500) {
		l := answers(t, p)
		for range 3 {
			numbers := m.numbers(p.Ins)
			was, _, e := exact.Run(p, numbers)
			for _, x := range l {
				if k, e := prog.Check(x.prog); k != 0 || e != api.OK {
					t.Fatalf("%s of %s: %s may not be: %d, %v", x.name, show(p), show(x.prog), k, e)
				}
				now, _, f := exact.Run(x.prog, numbers)
				switch {
				case e == api.OK && (f != api.OK || !row.Same(was, now)):
					t.Fatalf("%s on %s: %s; %s, %s: %s, %v", show(p), row.Text(numbers), row.Text(was), x.name, show(x.prog), row.Text(now), f)
				case e == api.OK:
					fine++
				case f == api.OK:
					mended++
				default:
					failing++
				}
			}
		}
	}
	if fine < 20000 || mended < 3000 || failing < 3000 {
		t.Errorf("%d go, %d go since the passes, %d fail", fine, mended, failing)
	}
}

// P16.4: over a grid over which p is judged exact Pack, and each program that Rounds tells, is, too, with the same Rows.
func TestJudgedTheSame(t *testing.T) {
	m := maker(165)
	fine, mended, failing := 0, 0, 0
	for n, p := range some(1500) {
		grid := m.grid(p.Ins, n%4)
		was, _, e := exact.Rows(p, grid)
		for _, x := range answers(t, p) {
			now, _, f := exact.Rows(x.prog, grid)
			_, judged := exact.Judge(x.prog, grid)
			switch {
			case judged != f || e == api.OK && (f != api.OK || toldAll(was) != toldAll(now)):
				t.Fatalf("%s over %s: %s, %v; %s, %s: %s, %v, %v", show(p), toldAll(grid), toldAll(was), e, x.name, show(x.prog), toldAll(now), f, judged)
			case e == api.OK:
				fine++
			case f == api.OK:
				mended++
			default:
				failing++
			}
		}
	}
	if fine < 8000 || mended < 500 || failing < 1000 {
		t.Errorf("%d are judged exact, %d are since the passes, %d are not", fine, mended, failing)
	}
}

// P4: all denote the same.
func TestDenotesTheSame(t *testing.T) {
	shorter := 0
	for _, p := range some(1500) {
		if p.Ins > 4 { // rows of that many fractions take long
			continue
		}
		all, _ := order.All(p)
		for _, q := range []api.Prog{packed(t, p), all} {
			if same, e := denote.Same(p, q); !same || e != api.OK {
				t.Errorf("%s and %s: %v, %v", show(p), show(q), same, e)
			}
			if len(q.Code) < len(p.Code) {
				shorter++
			}
		}
	}
	if shorter < 3000 {
		t.Errorf("%d became shorter", shorter)
	}
}

// P16.5: Pack has no more instructions than p, and no more registers; each instruction is needed; Pack of it is it again; its Regs is at most the greater one of Ins and Alive, and one more; Alive of it is Alive of p.
func TestFewer(t *testing.T) {
	for _, p := range append(some(4000), ladder(5), ladder(20)) {
		q := packed(t, p)
		if q.Ins != p.Ins || len(q.Code) > len(p.Code) || q.Regs > p.Regs || len(q.Outs) != len(p.Outs) {
			t.Errorf("Pack of %s: %s", show(p), show(q))
		}
		needed, e := prog.Needed(q)
		if e != api.OK || slices.Contains(needed, false) || slices.Contains(neededOf(q), false) {
			t.Errorf("Pack of %s: %s: needed: %v, %v", show(p), show(q), needed, e)
		}
		if r := packed(t, q); !alike(r, q) {
			t.Errorf("Pack of %s: %s, and of that: %s", show(p), show(q), show(r))
		}
		most := alive(t, p)
		if q.Regs > max(p.Ins, most)+1 || q.Regs > mostRegs || q.Regs < most {
			t.Errorf("Pack of %s: %s, though %d are alive", show(p), show(q), most)
		}
		if n := alive(t, q); n != most {
			t.Errorf("Pack of %s: %s: %d are alive, not %d", show(p), show(q), n, most)
		}
	}
}

// P16.5: registers are one more than the greater one of Ins and Alive just where the 0 is asked that no input makes room for.
func TestOneMore(t *testing.T) {
	holdWritten(t,
		written{"in 3 regs 5 | out r4", "in 3 regs 4 | out r3", 1},
		written{"in 3 regs 5 | r0 = r4 | out r0", "in 3 regs 4 | r0 = r3 | out r0", 1},
		written{"in 127 regs 128 | r0 = r127 | r1 = r0 - r5 | out r1", "in 127 regs 128 | r0 = r127 | r0 = r0 - r5 | out r0", 2},
		written{"in 3 regs 5 | r3 = r4 * 3 | out r0 r1 r2 r3", "in 3 regs 4 | r3 = r3 * 3 | out r0 r1 r2 r3", 4},
	)
}

// P16.6: what Pack leaves out may have failed: where it alone did, what Pack makes goes, and is judged exact.
func TestLeftOutMayFail(t *testing.T) {
	for _, s := range []string{
		"in 2 regs 3 | r2 = r1 / 7 | out r0",
		"in 2 regs 3 | r2 = r1 >> 1 | r2 = -r0 | r0 = -r2 | out r0",
		"in 2 regs 3 | r1 = r1 / -2 | r1 = r1 >> 64 | r2 = r0 | out r2",
	} {
		p, numbers := read(t, s), row.Of(5, 1)
		grid := [][]integer.Int{row.Of(5), row.Of(1)}
		all, _ := order.All(p)
		for _, q := range []api.Prog{packed(t, p), all} {
			_, _, e := exact.Run(p, numbers)
			outs, _, f := exact.Run(q, numbers)
			if e != api.ErrExact || f != api.OK || row.Text(outs) != "[5]" {
				t.Errorf("%s: %v, then %s, %v", s, e, row.Text(outs), f)
			}
			_, e = exact.Judge(p, grid)
			_, f = exact.Judge(q, grid)
			if e != api.ErrExact || f != api.OK {
				t.Errorf("%s: judged %v, then %v", s, e, f)
			}
		}
	}
}

// P16.4, P16.6: what is needed stays, and fails where it failed: nothing else is mended.
func TestNeededStillFails(t *testing.T) {
	p := read(t, "in 2 regs 5 | r2 = r0 - r1 | r3 = r2 / 2 | r4 = r3 >> 1 | out r4 r1")
	all, _ := order.All(p)
	for _, q := range []api.Prog{packed(t, p), all} {
		for a := range int64(9) {
			was, k, e := exact.Run(p, row.Of(a, 1))
			now, j, f := exact.Run(q, row.Of(a, 1))
			if e != f || !row.Same(was, now) || e != api.OK && len(q.Code) == len(p.Code) && j != k {
				t.Errorf("%s on %d 1: %s, %d, %v; %s: %s, %d, %v", show(p), a, row.Text(was), k, e, show(q), row.Text(now), j, f)
			}
		}
	}
}

// padded is a program between whose instructions stands what the passes leave out: what nobody asks, a product by 1, a move back.
func padded(p api.Prog) api.Prog {
	q := p
	q.Regs, q.Code = p.Regs+2, nil
	for _, i := range p.Code {
		q.Code = append(q.Code, i, in(mul, p.Regs, i.To, 0, 1), in(shl, p.Regs+1, i.To, 0, 7), in(move, i.To, p.Regs, 0, 0))
	}
	return q
}

// P4: of a program that evaluates, or interpolates, at points Pack and each pass make one that does so again, no longer and on no more registers, also where much else stands between its instructions.
func TestAtPoints(t *testing.T) {
	for _, s := range []string{"0", "0 1 inf", "0 1 -1 2 inf", "0 1 -1 2 -2 1/2 inf", "3 -4 5/2 16 -1/16 inf 7 (4:2)", "(-2:-4) (0:8) 9/7 -9/7 15"} {
		points, spot := point.Read(s)
		if spot != (api.Spot{}) {
			t.Fatalf("Read of %q: %v", s, spot)
		}
		back, e := synth.Program(points)
		holdAtPoints(t, s, back, e, func(q api.Prog) (bool, api.Errno) { return synth.Interpolates(q, points) })
		for k := 1; k <= 5; k++ {
			there, e := eval.Program(k, points)
			holdAtPoints(t, s, there, e, func(q api.Prog) (bool, api.Errno) { return eval.Evaluates(q, k, points) })
		}
	}
}

// holdAtPoints tells what is wrong, unless what is made of a program, and of it padded, does what it must at these points.
func holdAtPoints(t *testing.T, points string, p api.Prog, e api.Errno, does func(api.Prog) (bool, api.Errno)) {
	t.Helper()
	if e != api.OK {
		t.Fatalf("%s: %v", points, e)
	}
	for _, p := range []api.Prog{p, padded(p)} {
		for _, x := range answers(t, p) {
			if is, f := does(x.prog); !is || f != api.OK {
				t.Errorf("%s, %s: %v, %v", points, x.name, is, f)
			}
			if len(x.prog.Code) > len(p.Code) || x.prog.Regs > p.Regs {
				t.Errorf("%s, %s: %s of %s", points, x.name, show(x.prog), show(p))
			}
		}
	}
	if q, _ := order.All(padded(p)); 2*len(q.Code) > len(padded(p).Code) {
		t.Errorf("%s: %s of %s", points, show(q), show(padded(p)))
	}
}

// R3: what is handed in stays as it is, the room behind its end too.
func TestListsStay(t *testing.T) {
	for _, x := range append(some(300), wrong()...) {
		p := roomy(x)
		was := state(p)
		order.Pack(p)
		order.Alive(p)
		order.All(p)
		collect(p)
		if now := state(p); now != was {
			t.Errorf("%s, not %s", now, was)
		}
	}
}

// R3: the lists that Pack and All answer are new memory, the room behind their ends too: writing into them changes neither what was handed in nor what is answered later; nothing of what was handed in is kept.
func TestListsAreNew(t *testing.T) {
	for _, pass := range []func(api.Prog) (api.Prog, api.Errno){order.Pack, order.All} {
		for _, x := range append(some(400), ladder(3)) {
			first, _ := pass(x)
			want := prog.Copy(first)
			p := roomy(x)
			was := state(p)
			for range 2 {
				q, e := pass(p)
				if e != api.OK || !alike(q, want) {
					t.Fatalf("of %s: %s, %v, not %s", show(p), show(q), e, show(want))
				}
				spoil(t, q)
				if now := state(p); now != was {
					t.Fatalf("%s, not %s", now, was)
				}
			}
			q, _ := pass(p)
			clear(p.Code[:cap(p.Code)])
			clear(p.Outs[:cap(p.Outs)])
			if !alike(q, want) {
				t.Errorf("now %s, not %s", show(q), show(want))
			}
		}
	}
}

// R5: a program, and what Rounds answers, may be asked by several goroutines at one time.
func TestAtOneTime(t *testing.T) {
	p := read(t, "in 2 regs 9 | r5 = r0 + r1 | r7 = r5 * 3 | r8 = r0 | out r7 r1")
	all := order.Rounds(p)
	told := make(chan string)
	for range 8 {
		go func() {
			q, e := order.Pack(p)
			s, _ := prog.Text(q)
			n, f := order.Alive(p)
			r, g := order.All(p)
			s = fmt.Sprint(s, e, n, f, alike(q, r), g)
			for name, q := range all {
				s += " " + name
				spoil(t, q)
			}
			told <- s
		}()
	}
	for range 8 {
		if got := <-told; got != "in 2 regs 2\nr0 = r0 + r1\nr0 = r0 * 3\nout r0 r1\n0 2 0 true 0 fold share dead fold share dead pack" {
			t.Errorf("%q", got)
		}
	}
}
