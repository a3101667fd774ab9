package eval_test

import (
	"fmt"
	"math/big"
	"slices"
	"testing"

	"swage/api"
	"swage/eval"
	"swage/exact"
	"swage/integer"
)

// P11.4: programs that evaluate, run on any numbers, answer Values of them, and never fail.
func TestForAll(t *testing.T) {
	m := maker(41)
	hold := func(p api.Prog, k int, l []api.Point) {
		t.Helper()
		if is, e := eval.Evaluates(p, k, l); !is || e != api.OK {
			t.Fatalf("Evaluates of %s at %v: %v, %v", show(p), l, is, e)
		}
		for range 4 {
			c := integers(m.numbers(k))
			values, e := eval.Values(c, l)
			outs, at, f := exact.Run(p, c)
			if e != api.OK || f != api.OK || at != 0 || told(outs) != told(values) || len(outs) != len(l) {
				t.Errorf("Run of %s on %s: %s, %d, %v, not %s, %v", show(p), told(c), told(outs), at, f, told(values), e)
			}
		}
	}
	for k := 1; k <= mostParts; k++ {
		for n := range 60 {
			l := m.points(1 + n%mostPoints)
			p, _ := eval.Program(k, l)
			hold(p, k, l)
		}
	}
	for _, x := range []struct {
		text string
		k    int
		l    string
	}{
		{"in 2 regs 3 | r2 = r0 + r1 | out r0 r2 r1", 2, "0 1 inf"},
		{"in 2 regs 4 | r3 = r0 << 64 | r2 = r0 + r1 | r3 = r3 - r3 | out r0 r2 r3", 2, "0 1 (0:0)"},
		{"in 3 regs 4 | r3 = r0 + r2 | r0 = r3 + r1 | r1 = r3 - r1 | out r0 r1 r2", 3, "1 -1 inf"},
		{"in 3 regs 3 | r1 = r1 * 2 | r2 = r2 << 2 | r0 = r0 + r1 | r0 = r0 + r2 | r1 = -r0 | r1 = -r1 | out r0 r1", 3, "2 2"},
	} {
		hold(read(t, x.text), x.k, points(t, x.l))
	}
}

// product is the list of coefficients of the product of two polynomials.
func product(a, b []*big.Int) []*big.Int {
	c := make([]*big.Int, len(a)+len(b)-1)
	for m := range c {
		c[m] = new(big.Int)
		for i := range a {
			if j := m - i; 0 <= j && j < len(b) {
				c[m].Add(c[m], new(big.Int).Mul(a[i], b[j]))
			}
		}
	}
	return c
}

// P11.5: the values of two polynomials, multiplied, are the value of their product.
func TestProducts(t *testing.T) {
	m := maker(42)
	for k1 := 1; k1 <= mostCoeffs; k1++ {
		for k2 := 1; k1+k2-1 <= mostCoeffs; k2++ {
			a, b, l := m.numbers(k1), m.numbers(k2), m.points(mostPoints)
			left, e := eval.Values(integers(a), l)
			right, f := eval.Values(integers(b), l)
			both, g := eval.Values(integers(product(a, b)), l)
			if e != api.OK || f != api.OK || g != api.OK {
				t.Fatalf("Values: %v, %v, %v", e, f, g)
			}
			for i, p := range l {
				if left[i].Mul(right[i]).Cmp(both[i]) != 0 {
					t.Errorf("%v and %v at %v: %s, %s, %s", a, b, p, left[i].Text(), right[i].Text(), both[i].Text())
				}
			}
		}
	}
}

// valueAt is Value, which must not be refused.
func valueAt(t *testing.T, c []integer.Int, p api.Point) integer.Int {
	t.Helper()
	v, e := eval.Value(c, p)
	if e != api.OK {
		t.Fatalf("Value at %v: %v", p, e)
	}
	return v
}

// P11.6: at a point times c the value is c^(k-1) times as much.
func TestPointsTimes(t *testing.T) {
	m := maker(43)
	for k := 1; k <= mostCoeffs; k++ {
		numbers := integers(m.numbers(k))
		for _, p := range every() {
			for _, c := range []int{-16, -5, -2, -1, 0, 1, 2, 3, 8} {
				q := at(c*p.A, c*p.B)
				if max(q.A, -q.A, q.B, -q.B) > mostPoint {
					continue
				}
				want := new(big.Int).Mul(power(c, k-1), value(valueAt(t, numbers, p)))
				if v := valueAt(t, numbers, q); !says(v, want) {
					t.Errorf("%s at %v: %s, not %v", told(numbers), q, v.Text(), want)
				}
			}
		}
	}
}

// P11.6: at {A, B} the value is that of the coefficients in turned order at {B, A}.
func TestPointsTurned(t *testing.T) {
	m := maker(44)
	for k := 1; k <= mostCoeffs; k++ {
		numbers := integers(m.numbers(k))
		turned := slices.Clone(numbers)
		slices.Reverse(turned)
		for _, p := range every() {
			if v, w := valueAt(t, numbers, p), valueAt(t, turned, at(p.B, p.A)); v.Cmp(w) != 0 {
				t.Errorf("%s at %v: %s, turned %s", told(numbers), p, v.Text(), w.Text())
			}
		}
	}
}

// roomy is a list with room behind its end, in which something stands.
func roomy[T any](l []T, behind ...T) []T {
	return append(slices.Clone(l), behind...)[:len(l)]
}

// R3: what is handed in stays as it is, the room behind its end too, by every call, refused or not.
func TestListsStay(t *testing.T) {
	m := maker(45)
	for n, p := range append(wrong(), karatsuba(), api.Prog{Ins: 3, Regs: 9, Code: []api.Instr{in(neg, 0, 1, 0, 0)}, Outs: []int{0, 8}}) {
		p.Code = roomy(p.Code, in(7, 7, 7, 7, 7), in(8, 8, 8, 8, 8))
		p.Outs = roomy(p.Outs, 71, 72)
		for k := range mostCoeffs + 2 {
			c := roomy(integers(m.numbers(k)), list(81, 82)...)
			l := roomy(m.points((n+k)%(mostPoints+2)), at(91, 92), at(93, 94))
			state := func() string {
				return fmt.Sprint(len(c), told(c[:cap(c)]), len(l), l[:cap(l)], p.Ins, p.Regs, len(p.Code), p.Code[:min(cap(p.Code), 99)], len(p.Outs), p.Outs[:cap(p.Outs)])
			}
			was := state()
			eval.Values(c, l)
			eval.Value(c, at(3, -4))
			eval.Program(k, l)
			eval.Evaluates(p, k, l)
			eval.Evaluates(p, 2, l)
			if now := state(); now != was {
				t.Fatalf("%s, not %s", now, was)
			}
		}
	}
}

// R3: the values are a new list, the room behind its end too: writing into it changes nothing that is answered later, and nothing of what was handed in is kept.
func TestValuesAreNew(t *testing.T) {
	m := maker(46)
	for k := 1; k <= mostCoeffs; k++ {
		numbers, l := m.numbers(k), m.points(1+k%mostPoints)
		c, want := integers(numbers), valuesOf(numbers, l)
		first, _ := eval.Values(c, l)
		for i, x := range first[:cap(first)] {
			if i >= len(first) && x.Sign() != 0 {
				t.Errorf("behind the end: %s", x.Text())
			}
			first[:cap(first)][i] = of(-99)
		}
		second, e := eval.Values(c, l)
		if !sayAll(c, numbers) || e != api.OK {
			t.Errorf("the coefficients: %s, %v", told(c), e)
		}
		clear(c)
		clear(l)
		if !sayAll(second, want) {
			t.Errorf("%s, not %v", told(second), want)
		}
	}
}
