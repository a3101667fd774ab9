package synth_test

import (
	"slices"
	"testing"

	"swage/api"
	"swage/prog"
	"swage/synth"
)

// P12.4: a program that interpolates, within the bounds, an order, of no more instructions than Program's; it is the one that takes the values away in that order.
func TestBest(t *testing.T) {
	m := maker(21)
	for _, l := range slices.Concat(edges(t), m.lists(4)) {
		p, order, e := synth.Best(l)
		if !isOrder(order, len(l)) || e != api.OK {
			t.Fatalf("Best of %v: %v, %v", l, order, e)
		}
		hold(t, p, l)
		if n := len(program(t, l).Code); len(p.Code) > n {
			t.Errorf("Best of %v: %d instructions, Program %d", l, len(p.Code), n)
		}
		if q := ordered(t, l, order); !prog.Same(p, q) {
			t.Errorf("Best of %v, %v: %s, Ordered %s", l, order, show(p), show(q))
		}
		if q, again, _ := synth.Best(slices.Clone(l)); !prog.Same(p, q) || !slices.Equal(order, again) {
			t.Errorf("Best of %v: %v, then %v", l, order, again)
		}
	}
}

// P12.4: of lists that stand in an order that is long, a better one is found; of three points none is better.
func TestBestIsShorter(t *testing.T) {
	for _, s := range []string{"1/2 2/3 -5/7 (4:2) (-3:0)", "16 -16 15/16 -1/16 1 0 inf", "inf 2 -1 1 0", "inf 0 1 2 3 4 5 6 7 8 9 10 11 12 13"} {
		l := points(t, s)
		p, order, _ := synth.Best(l)
		if n := len(program(t, l).Code); len(p.Code) >= n || slices.Equal(order, rising(len(l))) {
			t.Errorf("Best of %s: %v, %d instructions, Program %d", s, order, len(p.Code), n)
		}
	}
	for _, s := range []string{"0", "0 1", "0 1 inf", "inf 1 0", "1 inf 0", "2 1/2 0", "3 -3 inf", "5/7 -1/2 3/4"} {
		l := points(t, s)
		p, _, _ := synth.Best(l)
		orders(len(l), func(order []int) {
			if n := len(ordered(t, l, order).Code); n < len(p.Code) {
				t.Errorf("Best of %s: %d instructions, by %v %d", s, len(p.Code), order, n)
			}
		})
	}
}
