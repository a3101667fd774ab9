package share_test

import (
	"fmt"
	"slices"
	"testing"

	"swage/api"
	"swage/denote"
	"swage/eval"
	"swage/exact"
	"swage/integer"
	"swage/point"
	"swage/prog"
	"swage/share"
	"swage/synth"
)

// P14.4: run on many numbers both answer the same, or both fail.
func TestRunsTheSame(t *testing.T) {
	m := maker(144)
	fine, failing, shorter := 0, 0, 0
	for _, p := range some(4000) {
		q := passed(t, p)
		for range 4 {
			numbers := integers(t, m.numbers(p.Ins))
			was, _, e := exact.Run(p, numbers)
			now, _, f := exact.Run(q, numbers)
			if e != f || told(was) != told(now) {
				t.Fatalf("%s on %s: %s, %v; %s: %s, %v", show(p), told(numbers), told(was), e, show(q), told(now), f)
			}
			switch {
			case e == api.ErrExact:
				failing++
			case len(q.Code) < len(p.Code):
				shorter++
			default:
				fine++
			}
		}
	}
	if fine < 1000 || failing < 3000 || shorter < 3000 {
		t.Errorf("%d go, %d fail, %d go and are shorter", fine, failing, shorter)
	}
}

// P14.4: both are judged exact over a grid, or none is, and their Rows are the same.
func TestJudgedTheSame(t *testing.T) {
	m := maker(145)
	fine, failing := 0, 0
	for n, p := range some(3000) {
		q := passed(t, p)
		for range 2 {
			grid := make([][]integer.Int, p.Ins)
			for range n % 4 {
				for i, x := range integers(t, m.numbers(p.Ins)) {
					grid[i] = append(grid[i], x)
				}
			}
			was, _, e := exact.Rows(p, grid)
			now, _, f := exact.Rows(q, grid)
			_, judged := exact.Judge(q, grid)
			if e != f || judged != f || toldAll(was) != toldAll(now) {
				t.Fatalf("%s over %s: %s, %v; %s: %s, %v, %v", show(p), toldAll(grid), toldAll(was), e, show(q), toldAll(now), f, judged)
			}
			if e == api.OK {
				fine++
			} else {
				failing++
			}
		}
	}
	if fine < 1000 || failing < 1000 {
		t.Errorf("%d are judged exact, %d are not", fine, failing)
	}
}

// P14.4: every two instructions on two registers behind a third one go and fail on the same numbers, small ones, one by one.
func TestSmallNumbers(t *testing.T) {
	m := maker(146)
	l := small()
	for _, a := range l {
		for _, b := range l {
			p := alone(l[m.below(len(l))], a, b)
			q := passed(t, p)
			for x := int64(-5); x <= 5; x++ {
				numbers := []integer.Int{integer.Of(x)}
				was, _, e := exact.Run(p, numbers)
				now, _, f := exact.Run(q, numbers)
				if e != f || told(was) != told(now) {
					t.Fatalf("%s on %d: %s, %v; %s: %s, %v", show(p), x, told(was), e, show(q), told(now), f)
				}
			}
		}
	}
}

// P4: both denote the same.
func TestDenotesTheSame(t *testing.T) {
	for _, p := range some(2500) {
		if p.Ins > 4 { // rows of that many fractions take long
			continue
		}
		q := passed(t, p)
		if same, e := denote.Same(p, q); !same || e != api.OK {
			t.Errorf("%s and %s: %v, %v", show(p), show(q), same, e)
		}
	}
}

// P4: of a program that evaluates, or interpolates, at points the pass makes one that does so again.
func TestAtPoints(t *testing.T) {
	for _, s := range []string{"0", "0 1 inf", "0 1 -1 2 inf", "0 1 -1 2 -2 1/2 inf", "3 -4 5/2 16 -1/16 inf 7 (4:2)", "(-2:-4) (0:8) 9/7 -9/7 15"} {
		points, spot := point.Read(s)
		if spot != (api.Spot{}) {
			t.Fatalf("Read of %q: %v", s, spot)
		}
		back, e := synth.Program(points)
		if is, f := synth.Interpolates(passed(t, back), points); !is || e != api.OK || f != api.OK {
			t.Errorf("%s: interpolates: %v, %v, %v", s, is, e, f)
		}
		for k := 1; k <= 5; k++ {
			p, e := eval.Program(k, points)
			if is, f := eval.Evaluates(passed(t, p), k, points); !is || e != api.OK || f != api.OK {
				t.Errorf("%s, %d coefficients: evaluates: %v, %v, %v", s, k, is, e, f)
			}
		}
	}
}

// roomy is a program whose lists have room behind their ends, in which something stands.
func roomy(p api.Prog) api.Prog {
	p.Code = append(slices.Clone(p.Code), times(40, in(7, 7, 7, 7, 7))...)[:len(p.Code)]
	p.Outs = append(slices.Clone(p.Outs), 7, 7, 7, 7, 7)[:len(p.Outs)]
	return p
}

// state is all that stands in a program, and in the room of its lists.
func state(p api.Prog) string {
	return fmt.Sprint(p.Ins, p.Regs, len(p.Code), p.Code[:cap(p.Code)], len(p.Outs), p.Outs[:cap(p.Outs)])
}

// R3: what is handed in stays as it is, the room behind its end too.
func TestListsStay(t *testing.T) {
	for _, x := range append(some(500), wrong()...) {
		p := roomy(x)
		was := state(p)
		share.Pass(p)
		share.Values(p)
		pairs(p)
		if now := state(p); now != was {
			t.Errorf("%s, not %s", now, was)
		}
	}
}

// spoil writes into all memory of a list, behind its end too, where nothing may have stood.
func spoil[T comparable](t *testing.T, l []T, with T) {
	t.Helper()
	var nothing T
	for k, v := range l[:cap(l)] {
		if k >= len(l) && v != nothing {
			t.Errorf("behind the end: %v", v)
		}
		l[:cap(l)][k] = with
	}
}

// R3: the lists that are answered are new memory, the room behind their ends too: writing into them changes neither what was handed in nor what is answered later; nothing of what was handed in is kept.
func TestListsAreNew(t *testing.T) {
	var n tally
	for _, x := range some(700) {
		want, values := passOf(x, &n), valuesOf(x)
		p := roomy(x)
		was := state(p)
		for range 2 {
			q := passed(t, p)
			if !alike(q, want) {
				t.Fatalf("Pass of %s: %s, not %s", show(p), show(q), show(want))
			}
			holdValues(t, p, values)
			l, _ := share.Values(p)
			spoil(t, q.Code, in(-9, -9, -9, -9, -9))
			spoil(t, q.Outs, -9)
			spoil(t, l, -9)
			if now := state(p); now != was {
				t.Fatalf("%s, not %s", now, was)
			}
		}
		q := passed(t, p)
		l, _ := share.Values(p)
		clear(p.Code[:cap(p.Code)])
		clear(p.Outs[:cap(p.Outs)])
		if !alike(q, want) || !slices.Equal(l, values) {
			t.Errorf("now %s, %v, not %s, %v", show(q), l, show(want), values)
		}
	}
}

// R5: a program, and what Twice answers, may be asked by several goroutines at one time.
func TestAtOneTime(t *testing.T) {
	p := read(t, "in 2 regs 4 | r2 = r0 + r1 | r3 = r1 + r0 | r3 = r3 - r2 | out r3 r2")
	both := share.Twice(p)
	answers := make(chan string)
	for range 8 {
		go func() {
			q, e := share.Pass(p)
			s, _ := prog.Text(q)
			spoil(t, q.Code, in(-9, -9, -9, -9, -9))
			l, f := share.Values(p)
			s = fmt.Sprint(s, e, l, f)
			for k, first := range both {
				s += fmt.Sprint(" ", k, first)
			}
			answers <- s
		}()
	}
	for range 8 {
		if got := <-answers; got != "in 2 regs 4\nr2 = r0 + r1\nr3 = r2\nr3 = r2 - r2\nout r3 r2\n0 [3 3 4] 0 1 0" {
			t.Error(got)
		}
	}
}
