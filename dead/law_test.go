package dead_test

import (
	"fmt"
	"slices"
	"testing"

	"swage/api"
	"swage/dead"
	"swage/denote"
	"swage/eval"
	"swage/exact"
	"swage/integer"
	"swage/point"
	"swage/prog"
	"swage/synth"
)

// P15.4: run on numbers on which p goes both answer the same; where p fails what the pass makes fails or goes.
func TestRunsTheSame(t *testing.T) {
	m := maker(154)
	fine, shorter, mended, failing := 0, 0, 0, 0
	for _, p := range some(4000) {
		q := passed(t, p)
		for range 4 {
			numbers := integers(t, m.numbers(p.Ins))
			was, _, e := exact.Run(p, numbers)
			now, _, f := exact.Run(q, numbers)
			if e == api.OK && (f != api.OK || told(was) != told(now)) {
				t.Fatalf("%s on %s: %s; %s: %s, %v", show(p), told(numbers), told(was), show(q), told(now), f)
			}
			switch {
			case e != api.OK && f != api.OK:
				failing++
			case e != api.OK:
				mended++
			case len(q.Code) < len(p.Code):
				shorter++
			default:
				fine++
			}
		}
	}
	if fine < 500 || shorter < 5000 || mended < 1000 || failing < 1000 {
		t.Errorf("%d go, %d go and are shorter, %d go since the pass, %d fail", fine, shorter, mended, failing)
	}
}

// P15.4: what is left out may have failed: where it alone did, what the pass makes goes.
func TestLeftOutMayFail(t *testing.T) {
	for _, s := range []string{
		"in 2 regs 3 | r2 = r1 / 7 | out r0",
		"in 2 regs 3 | r2 = r1 >> 1 | r2 = -r0 | r0 = -r2 | out r0",
		"in 2 regs 3 | r1 = r1 / -2 | r1 = r1 >> 64 | out r0",
	} {
		p, numbers := read(t, s), []integer.Int{integer.Of(5), integer.Of(1)}
		grid := [][]integer.Int{{integer.Of(5)}, {integer.Of(1)}}
		_, _, e := exact.Run(p, numbers)
		outs, _, f := exact.Run(passed(t, p), numbers)
		if e != api.ErrExact || f != api.OK || told(outs) != "5" {
			t.Errorf("%s: %v, then %s, %v", s, e, told(outs), f)
		}
		if _, e := exact.Judge(p, grid); e != api.ErrExact {
			t.Errorf("%s: judged %v", s, e)
		}
		if _, e := exact.Judge(passed(t, p), grid); e != api.OK {
			t.Errorf("%s: judged %v since the pass", s, e)
		}
	}
}

// P15.4: over a grid over which p is judged exact what the pass makes is, too, with the same Rows.
func TestJudgedTheSame(t *testing.T) {
	m := maker(155)
	fine, mended, failing := 0, 0, 0
	for n, p := range some(4000) {
		q := passed(t, p)
		for range 2 {
			grid := make([][]integer.Int, p.Ins)
			for range n % 4 {
				for i, x := range integers(t, m.numbers(p.Ins)) {
					grid[i] = append(grid[i], x)
				}
			}
			was, _, e := exact.Rows(p, grid)
			now, _, f := exact.Rows(q, grid)
			_, judged := exact.Judge(q, grid)
			if judged != f || e == api.OK && (f != api.OK || toldAll(was) != toldAll(now)) {
				t.Fatalf("%s over %s: %s, %v; %s: %s, %v, %v", show(p), toldAll(grid), toldAll(was), e, show(q), toldAll(now), f, judged)
			}
			switch {
			case e == api.OK:
				fine++
			case f == api.OK:
				mended++
			default:
				failing++
			}
		}
	}
	if fine < 5000 || mended < 500 || failing < 500 {
		t.Errorf("%d are judged exact, %d are since the pass, %d are not", fine, mended, failing)
	}
}

// P15.4, P4: both denote the same.
func TestDenotesTheSame(t *testing.T) {
	shorter := 0
	for _, p := range some(2500) {
		if p.Ins > 4 { // rows of that many fractions take long
			continue
		}
		q := passed(t, p)
		if same, e := denote.Same(p, q); !same || e != api.OK {
			t.Errorf("%s and %s: %v, %v", show(p), show(q), same, e)
		}
		if len(q.Code) < len(p.Code) {
			shorter++
		}
	}
	if shorter < 2000 {
		t.Errorf("%d became shorter", shorter)
	}
}

// P15.4: a program that is too wide may be so no longer, where nobody asks for what was too wide.
func TestTooWide(t *testing.T) {
	p := alone(times(1100, in(shl, 1, 1, 0, mostShift))...)
	p.Code = append([]api.Instr{in(move, 1, 0, 0, 0)}, p.Code...)
	p.Outs = []int{0}
	if _, e := denote.Rows(p); e != api.ErrLong {
		t.Errorf("Rows: %v", e)
	}
	rows, e := denote.Rows(passed(t, p))
	if e != api.OK || len(rows) != 1 || len(rows[0]) != 1 || rows[0][0].Text() != "1" {
		t.Errorf("Rows since the pass: %v, %v", rows, e)
	}
	p.Outs = []int{1}
	if q := passed(t, p); !alike(q, p) {
		t.Errorf("Pass of %s: %s", show(p), show(q))
	}
}

// P15.6: a program answers the same, whatever its inputs hold whose beginning is not asked, where it goes; what the pass makes also fails on both, or on none.
func TestNotAsked(t *testing.T) {
	m := maker(156)
	both, other, failing := 0, 0, 0
	for _, p := range some(4000) {
		asked, _ := dead.Asked(p)
		if !slices.Contains(asked[:p.Ins], false) {
			continue
		}
		q := passed(t, p)
		for range 3 {
			here, there := integers(t, m.numbers(p.Ins)), integers(t, m.numbers(p.Ins))
			for r := range p.Ins {
				if asked[r] {
					there[r] = here[r]
				}
			}
			a, _, e := exact.Run(p, here)
			b, _, f := exact.Run(p, there)
			switch {
			case e == api.OK && f == api.OK:
				both++
				if told(a) != told(b) {
					t.Fatalf("%s on %s: %s; on %s: %s", show(p), told(here), told(a), told(there), told(b))
				}
			case e == api.OK || f == api.OK:
				other++
			default:
				failing++
			}
			a, _, e = exact.Run(q, here)
			b, _, f = exact.Run(q, there)
			if e != f || told(a) != told(b) {
				t.Fatalf("%s on %s: %s, %v; on %s: %s, %v", show(q), told(here), told(a), e, told(there), told(b), f)
			}
		}
	}
	if both < 5000 || other < 300 || failing < 500 {
		t.Errorf("%d go on both, %d on one of both, %d on none", both, other, failing)
	}
}

// P15.3, P15.6: of a program that denotes (no division is asked for there) the columns of inputs that are not asked are noughts.
func TestNotAskedDenotesNought(t *testing.T) {
	columns := 0
	for _, p := range some(1500) {
		if p.Ins > 4 {
			continue
		}
		asked, _ := dead.Asked(p)
		rows, e := denote.Rows(p)
		if e != api.OK {
			t.Fatalf("Rows of %s: %v", show(p), e)
		}
		for r := range p.Ins {
			for k, l := range rows {
				if !asked[r] && l[r].Text() != "0" {
					t.Errorf("%s: the out %d has %s of the input %d, which is not asked", show(p), k, l[r].Text(), r)
				}
			}
			if !asked[r] {
				columns++
			}
		}
	}
	if columns < 500 {
		t.Errorf("%d columns", columns)
	}
}

// P4: of a program that evaluates, or interpolates, at points the pass makes one that does so again, also where idle instructions stand behind each one.
func TestAtPoints(t *testing.T) {
	for _, s := range []string{"0", "0 1 inf", "0 1 -1 2 inf", "0 1 -1 2 -2 1/2 inf", "3 -4 5/2 16 -1/16 inf 7 (4:2)", "(-2:-4) (0:8) 9/7 -9/7 15"} {
		points, spot := point.Read(s)
		if spot != (api.Spot{}) {
			t.Fatalf("Read of %q: %v", s, spot)
		}
		back, e := synth.Program(points)
		for _, p := range []api.Prog{back, padded(back)} {
			if is, f := synth.Interpolates(passed(t, p), points); !is || e != api.OK || f != api.OK {
				t.Errorf("%s: interpolates: %v, %v, %v", s, is, e, f)
			}
		}
		for k := 1; k <= 5; k++ {
			there, e := eval.Program(k, points)
			for _, p := range []api.Prog{there, padded(there)} {
				if is, f := eval.Evaluates(passed(t, p), k, points); !is || e != api.OK || f != api.OK {
					t.Errorf("%s, %d coefficients: evaluates: %v, %v, %v", s, k, is, e, f)
				}
			}
		}
	}
}

// padded is a program with two idle instructions behind each one, on one more register.
func padded(p api.Prog) api.Prog {
	q := p
	q.Regs, q.Code = p.Regs+1, nil
	for _, i := range p.Code {
		q.Code = append(q.Code, i, in(move, i.To, i.To, 0, 0), in(div, p.Regs, i.To, 0, 7))
	}
	return q
}

// R6: Idle may be left anywhere, also within itself, and tells all when it is gone through again.
func TestIdleLeftEarly(t *testing.T) {
	left := 0
	for _, p := range some(600) {
		want := idleOf(p)
		told := dead.Idle(p)
		for most := range len(want) + 1 {
			var l []int
			for k := range told {
				if len(l) == most {
					left++
					break
				}
				l = append(l, k)
			}
			if !slices.Equal(l, want[:most]) {
				t.Fatalf("Idle of %s, left early: %v, not %v", show(p), l, want[:most])
			}
		}
		inner := 0
		for range told {
			for range told {
				inner++
			}
		}
		if l := slices.Collect(told); inner != len(want)*len(want) || !slices.Equal(l, want) {
			t.Fatalf("Idle of %s within itself: %d, and then %v", show(p), inner, l)
		}
	}
	if left < 3000 {
		t.Errorf("left %d times", left)
	}
}

// R3, R6: Idle tells of the program as it was handed in, whatever is written into its lists later.
func TestIdleKeepsNothing(t *testing.T) {
	for _, x := range some(400) {
		want := idleOf(x)
		p := roomy(x)
		told := dead.Idle(p)
		clear(p.Code[:cap(p.Code)])
		clear(p.Outs[:cap(p.Outs)])
		for range 2 {
			if l := slices.Collect(told); !slices.Equal(l, want) {
				t.Fatalf("Idle of %s: %v, not %v", show(x), l, want)
			}
		}
	}
}

// roomy is a program whose lists have room behind their ends, in which something stands.
func roomy(p api.Prog) api.Prog {
	p.Code = append(slices.Clone(p.Code), times(40, in(7, 7, 7, 7, 7))...)[:len(p.Code)]
	p.Outs = append(slices.Clone(p.Outs), 7, 7, 7, 7, 7)[:len(p.Outs)]
	return p
}

// state is all that stands in a program, and in the room of its lists.
func state(p api.Prog) string {
	return fmt.Sprint(p.Ins, p.Regs, len(p.Code), p.Code[:cap(p.Code)], len(p.Outs), p.Outs[:cap(p.Outs)])
}

// R3: what is handed in stays as it is, the room behind its end too.
func TestListsStay(t *testing.T) {
	for _, x := range append(some(500), wrong()...) {
		p := roomy(x)
		was := state(p)
		dead.Pass(p)
		dead.Asked(p)
		for range dead.Idle(p) {
		}
		if now := state(p); now != was {
			t.Errorf("%s, not %s", now, was)
		}
	}
}

// spoil writes into all memory of a list, behind its end too, where nothing may have stood.
func spoil[T comparable](t *testing.T, l []T, with T) {
	t.Helper()
	var nothing T
	for k, v := range l[:cap(l)] {
		if k >= len(l) && v != nothing {
			t.Errorf("behind the end: %v", v)
		}
		l[:cap(l)][k] = with
	}
}

// R3: the lists that are answered are new memory, the room behind their ends too: writing into them changes neither what was handed in nor what is answered later; nothing of what was handed in is kept.
func TestListsAreNew(t *testing.T) {
	for _, x := range some(700) {
		want, beginnings := passOf(x), askedOf(x)
		want.Outs = slices.Clone(want.Outs)
		p := roomy(x)
		was := state(p)
		for range 2 {
			q := passed(t, p)
			if !alike(q, want) {
				t.Fatalf("Pass of %s: %s, not %s", show(p), show(q), show(want))
			}
			holdAsked(t, p, beginnings)
			l, _ := dead.Asked(p)
			spoil(t, q.Code, in(-9, -9, -9, -9, -9))
			spoil(t, q.Outs, -9)
			spoil(t, l, true)
			if now := state(p); now != was {
				t.Fatalf("%s, not %s", now, was)
			}
		}
		q := passed(t, p)
		l, _ := dead.Asked(p)
		clear(p.Code[:cap(p.Code)])
		clear(p.Outs[:cap(p.Outs)])
		if !alike(q, want) || !slices.Equal(l, beginnings) {
			t.Errorf("now %s, %v, not %s, %v", show(q), l, show(want), beginnings)
		}
	}
}

// R5: a program, and what Idle answers, may be asked by several goroutines at one time.
func TestAtOneTime(t *testing.T) {
	p := read(t, "in 2 regs 4 | r2 = r0 + r1 | r3 = r2 * 5 | r2 = r0 - r1 | r1 = r1 | out r2 r0")
	both := dead.Idle(p)
	answers := make(chan string)
	for range 8 {
		go func() {
			q, e := dead.Pass(p)
			s, _ := prog.Text(q)
			spoil(t, q.Code, in(-9, -9, -9, -9, -9))
			l, f := dead.Asked(p)
			s = fmt.Sprint(s, e, l, f)
			for k := range both {
				s += fmt.Sprint(" ", k)
			}
			answers <- s
		}()
	}
	for range 8 {
		if got := <-answers; got != "in 2 regs 4\nr2 = r0 - r1\nout r2 r0\n0 [true true false false] 0 0 1 3" {
			t.Error(got)
		}
	}
}
