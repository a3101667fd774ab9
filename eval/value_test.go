package eval_test

import (
	"fmt"
	"math/big"
	"slices"
	"testing"

	"swage/api"
	"swage/eval"
	"swage/integer"
)

// P11.1: the chapter's examples, and others written out.
func TestValue(t *testing.T) {
	for _, x := range []struct {
		c    []integer.Int
		p    api.Point
		want int64
	}{
		{list(1, 2, 3), at(2, 1), 17}, {list(1, 2, 3), at(1, 0), 3}, {list(1, 2, 3), at(1, 2), 11}, {list(5), at(0, 0), 5}, {list(5, 6), at(0, 0), 0},
		{list(1, 2, 3), at(0, 1), 1}, {list(1, 2, 3), at(0, -1), 1}, {list(1, 2), at(0, -1), -1}, {list(1, 2, 3), at(-1, 0), 3}, {list(1, 2), at(-1, 0), -2}, {list(1, 2, 3), at(1, 1), 6}, {list(1, 2, 3), at(-1, 1), 2}, {list(1, 2, 3), at(1, -1), 2}, {list(1, 2, 3), at(-1, -1), 6}, {list(1, 2), at(-1, -1), -3}, {list(1, 2, 3), at(2, 2), 24}, {list(1, 2, 3), at(2, 3), 9 + 12 + 12}, {list(1, 2, 3), at(3, -2), 4 - 12 + 27},
		{list(-7), at(16, -16), -7}, {list(0), at(3, 5), 0}, {list(0, 0, 1), at(0, 0), 0}, {list(0, 0, 0, 1), at(16, 16), 4096}, {list(0, 0, 0, 1), at(-16, 1), -4096}, {list(1, 0, 0, 0), at(1, -16), -4096}, {list(0, 1, 0), at(-16, 16), -256}, {list(1, 1, 1), at(16, -16), 256},
	} {
		if v, e := eval.Value(x.c, x.p); !says(v, big.NewInt(x.want)) || e != api.OK {
			t.Errorf("Value of %s at %v: %s, %v", told(x.c), x.p, v.Text(), e)
		}
	}
}

// P11.1: each point that is in, with each number of coefficients that may be.
func TestValueEvery(t *testing.T) {
	m := maker(11)
	for k := 1; k <= mostCoeffs; k++ {
		c := m.numbers(k)
		own := integers(c)
		for _, p := range every() {
			if v, e := eval.Value(own, p); !says(v, valueOf(c, p)) || e != api.OK {
				t.Errorf("Value of %v at %v: %s, %v", c, p, v.Text(), e)
			}
		}
	}
}

// P11.1: no coefficient is too wide, and 0 in all its forms is one as others are.
func TestValueWide(t *testing.T) {
	huge := new(big.Int).Sub(new(big.Int).Lsh(big.NewInt(1), 200000), big.NewInt(3))
	c := []*big.Int{huge, big.NewInt(-1), new(big.Int).Neg(huge)}
	for _, p := range []api.Point{at(0, 0), at(0, 1), at(1, 0), at(1, 1), at(-16, 16), at(5, -7)} {
		if v, e := eval.Value(integers(c), p); !says(v, valueOf(c, p)) || e != api.OK {
			t.Errorf("Value at %v: %d bits, %v", p, v.Bits(), e)
		}
	}
	for _, zero := range []integer.Int{{}, of(0), integer.Make(true, nil), integer.Make(true, []uint32{0, 0})} {
		v, e := eval.Value([]integer.Int{zero, of(3), zero}, at(2, -5))
		if !says(v, big.NewInt(-30)) || e != api.OK {
			t.Errorf("Value: %s, %v", v.Text(), e)
		}
		if v, e := eval.Value([]integer.Int{zero, zero}, at(2, -5)); !says(v, new(big.Int)) || e != api.OK {
			t.Errorf("Value of noughts: %s, %v", v.Text(), e)
		}
	}
}

// wrongCoefficients are as many coefficients as may not be.
func wrongCoefficients() [][]integer.Int {
	l := [][]integer.Int{nil, {}}
	for _, n := range []int{mostCoeffs + 1, mostCoeffs + 2, 2 * mostCoeffs, 4096, 1 << 16} {
		l = append(l, make([]integer.Int, n), slices.Repeat(list(1), n))
	}
	return l
}

// P11.1: none, one too many, points that are not in, both; beside the error 0.
func TestValueArg(t *testing.T) {
	refused := func(c []integer.Int, p api.Point) {
		t.Helper()
		if v, e := eval.Value(c, p); v.Sign() != 0 || e != api.ErrArg {
			t.Errorf("Value of %d coefficients at %v: %s, %v", len(c), p, v.Text(), e)
		}
	}
	for _, c := range wrongCoefficients() {
		for _, p := range []api.Point{at(0, 0), at(0, 1), at(1, 0), at(1, 1), at(17, 1)} {
			refused(c, p)
		}
	}
	for _, p := range outside() {
		for _, n := range []int{1, 2, mostParts, mostCoeffs} {
			refused(slices.Repeat(list(1), n), p)
		}
	}
}

// P11.1: the chapter's example, and others written out.
func TestValues(t *testing.T) {
	for _, x := range []struct {
		c       []integer.Int
		l, want string
	}{
		{list(1, -1), "0 1 -1 inf", "1 0 2 -1"},
		{list(1, -1), "inf -1 1 0", "-1 2 0 1"},
		{list(1, 2, 3), "2 inf 1/2 -1 (0:0) (2:2)", "17 3 11 2 0 24"},
		{list(5), "(0:0) 7 inf -3/4", "5 5 5 5"},
		{list(5, 6), "(0:0)", "0"},
		{list(5, 6), "1 1 1 (2:2) (-1:-1) (0:0) (0:0)", "11 11 11 22 -11 0 0"},
		{list(0, 0), "0 1", "0 0"},
	} {
		if l, e := eval.Values(x.c, points(t, x.l)); told(l) != x.want || e != api.OK {
			t.Errorf("Values of %s at %s: %s, %v", told(x.c), x.l, told(l), e)
		}
	}
}

// P11.1: lists of each length that may be, in order; Value says the same of each point.
func TestValuesMany(t *testing.T) {
	m := maker(12)
	for k := 1; k <= mostCoeffs; k++ {
		for n := 1; n <= mostPoints; n++ {
			c, l := m.numbers(k), m.points(n)
			values, e := eval.Values(integers(c), l)
			if !sayAll(values, valuesOf(c, l)) || e != api.OK {
				t.Errorf("Values of %v at %v: %s, %v", c, l, told(values), e)
			}
			for i, p := range l {
				if v, f := eval.Value(integers(c), p); f != api.OK || i < len(values) && v.Cmp(values[i]) != 0 {
					t.Errorf("Value of %v at %v: %s, %v", c, p, v.Text(), f)
				}
			}
		}
	}
}

// P11.1: what may not be handed in, each with whatever the other is; beside the error an empty list.
func TestValuesArg(t *testing.T) {
	refused := func(c []integer.Int, l []api.Point) {
		t.Helper()
		if v, e := eval.Values(c, l); len(v) != 0 || e != api.ErrArg {
			t.Errorf("Values of %d coefficients at %d points, %v: %s, %v", len(c), len(l), l[:min(len(l), 3)], told(v), e)
		}
	}
	fine := [][]api.Point{{at(0, 0)}, {at(1, 1), at(1, 1)}, make([]api.Point, mostPoints)}
	for _, c := range wrongCoefficients() {
		for _, l := range append(fine, nil, []api.Point{at(17, 1)}, make([]api.Point, mostPoints+1)) {
			refused(c, l)
		}
	}
	for _, l := range wrongPoints() {
		for _, n := range []int{1, 2, mostCoeffs} {
			refused(slices.Repeat(list(1), n), l)
		}
	}
	for _, l := range fine {
		for _, n := range []int{1, 2, mostCoeffs - 1, mostCoeffs} {
			if v, e := eval.Values(slices.Repeat(list(1), n), l); len(v) != len(l) || e != api.OK {
				t.Errorf("Values of %d coefficients at %d points: %d, %v", n, len(l), len(v), e)
			}
		}
	}
}

// R5: the same coefficients and points, the same values, by several goroutines at one time.
func TestAtOneTime(t *testing.T) {
	c, l := list(3, -1, 4), points(t, "0 1 -1 2 1/2 inf (0:0)")
	answers := make(chan string)
	for range 8 {
		go func() {
			v, _ := eval.Values(c, l)
			x, _ := eval.Value(c, l[3])
			p, _ := eval.Program(3, l)
			is, _ := eval.Evaluates(p, 3, l)
			answers <- fmt.Sprint(told(v), "; ", x.Text(), "; ", is, "; ", show(p))
		}()
	}
	p, _ := eval.Program(3, l)
	want := "3 6 8 17 14 4 0; 17; true; " + show(p)
	for range 8 {
		if got := <-answers; got != want {
			t.Errorf("%s, not %s", got, want)
		}
	}
}
