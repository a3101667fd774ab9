package synth_test

import (
	"fmt"
	"math/big"
	"slices"
	"sync"
	"testing"

	"swage/api"
	"swage/exact"
	"swage/integer"
	"swage/prog"
	"swage/synth"
)

// all are the programs of points that Program, Ordered and Best make.
func all(t *testing.T, m *maker, l []api.Point) []api.Prog {
	t.Helper()
	best, _, e := synth.Best(l)
	if e != api.OK {
		t.Fatalf("Best of %v: %v", l, e)
	}
	return []api.Prog{program(t, l), ordered(t, l, m.order(len(l))), best}
}

// P12.8: run on the values of a polynomial, a program answers its coefficients, and never fails; the chapter's example among them.
func TestCoefficients(t *testing.T) {
	l := points(t, "0 1 -1 2 inf")
	outs, _, e := exact.Run(program(t, l), []integer.Int{integer.Of(3), integer.Of(2), integer.Of(0), integer.Of(-27), integer.Of(-2)})
	if e != api.OK || !sayAll(outs, []*big.Int{big.NewInt(3), big.NewInt(1), new(big.Int), new(big.Int), big.NewInt(-2)}) {
		t.Errorf("3 + x - 2 x^4: %v, %v", outs, e)
	}
	m := maker(51)
	for _, l := range slices.Concat(edges(t), m.lists(4)) {
		for _, p := range all(t, &m, l) {
			for range 3 {
				c := m.numbers(len(l))
				outs, at, e := exact.Run(p, integers(valuesOf(c, l)))
				if e != api.OK || at != 0 || !sayAll(outs, c) {
					t.Errorf("Run of %s on the values at %v: %v, %d, %v, not %v", show(p), l, outs, at, e, c)
				}
			}
		}
	}
}

// P12.7: each program of right points interpolates, as Interpolates tells it.
func TestEveryScheme(t *testing.T) {
	m := maker(52)
	for _, l := range slices.Concat(edges(t), m.lists(6)) {
		for _, p := range all(t, &m, l) {
			if is, e := synth.Interpolates(p, l); !is || e != api.OK {
				t.Errorf("Interpolates of %s at %v: %v, %v", show(p), l, is, e)
			}
		}
	}
}

// product is the list of coefficients of the product of two polynomials.
func product(a, b []*big.Int) []*big.Int {
	c := make([]*big.Int, len(a)+len(b)-1)
	for m := range c {
		c[m] = new(big.Int)
		for i := range a {
			if j := m - i; 0 <= j && j < len(b) {
				c[m].Add(c[m], new(big.Int).Mul(a[i], b[j]))
			}
		}
	}
	return c
}

// P12.9: of the products of two polynomials' values a program makes the coefficients of their product.
func TestProducts(t *testing.T) {
	m := maker(53)
	for _, l := range slices.Concat(edges(t), m.lists(6)) {
		p := program(t, l)
		for k := 1; k <= len(l); k++ {
			a, b := m.numbers(k), m.numbers(len(l)+1-k)
			left, right := valuesOf(a, l), valuesOf(b, l)
			for i := range left {
				left[i].Mul(left[i], right[i])
			}
			outs, at, e := exact.Run(p, integers(left))
			if e != api.OK || at != 0 || !sayAll(outs, product(a, b)) {
				t.Errorf("%v and %v at %v: %v, %d, %v", a, b, l, outs, at, e)
			}
		}
	}
}

// roomy is a list with room behind its end, in which something stands.
func roomy[T any](l []T, behind ...T) []T {
	return append(slices.Clone(l), behind...)[:len(l)]
}

// R3: what is handed in stays as it is, the room behind its end too, by every call, refused or not.
func TestListsStay(t *testing.T) {
	m := maker(54)
	programs := append(wrong(), karatsuba(), program(t, points(t, "0 1 -1 2 inf")))
	for k, l := range append(m.lists(2), wrongPoints()[:60]...) {
		if len(l) > 2*mostPoints {
			continue
		}
		p := programs[k%len(programs)]
		p.Code, p.Outs = roomy(p.Code, in(7, 7, 7, 7, 7), in(8, 8, 8, 8, 8)), roomy(p.Outs, 71, 72)
		l, order := roomy(l, at(91, 92), at(93, 94)), roomy(m.order(len(l)), 81, 82)
		state := func() string {
			return fmt.Sprint(len(l), l[:cap(l)], len(order), order[:cap(order)], p.Ins, p.Regs, len(p.Code), p.Code[:min(cap(p.Code), 99)], len(p.Outs), p.Outs[:cap(p.Outs)])
		}
		was := state()
		synth.Right(l)
		synth.Grid(l)
		synth.Program(l)
		synth.Ordered(l, order)
		synth.Ordered(l, order[:len(order)/2])
		synth.Best(l)
		synth.Interpolates(p, l)
		synth.Divisors(l)
		if now := state(); now != was {
			t.Fatalf("%s, not %s", now, was)
		}
	}
}

// spoil overwrites a list, and the room behind its end.
func spoil[T any](l []T, with T) {
	for i := range l[:cap(l)] {
		l[:cap(l)][i] = with
	}
}

// answers tells all that is answered of points, and then spoils it.
func answers(l []api.Point, order []int) string {
	var told string
	tell := func(p api.Prog, more ...any) {
		told += fmt.Sprint(p, more)
		spoil(p.Code, in(9, 9, 9, 9, 9))
		spoil(p.Outs, -9)
	}
	grid, _ := synth.Grid(l)
	for _, a := range grid {
		for _, x := range a {
			told += x.Text() + " "
		}
		told += "; "
		spoil(a, integer.Of(-99)) // the rows behind it must not be changed by it
	}
	spoil(grid, nil)
	p, _ := synth.Program(l)
	tell(p)
	p, _ = synth.Ordered(l, order)
	tell(p)
	p, best, _ := synth.Best(l)
	tell(p, best)
	spoil(best, -9)
	found, _ := synth.Divisors(l)
	told += fmt.Sprint(found)
	spoil(found, -9)
	return told
}

// R3: the lists that are answered are new memory, the room behind their ends too: writing there changes nothing that is answered later, nothing else of the same answer, and nothing that was handed in.
func TestAnswersAreNew(t *testing.T) {
	m := maker(55)
	for _, l := range slices.Concat(edges(t), m.lists(2)) {
		order := m.order(len(l))
		points, numbers := slices.Clone(l), slices.Clone(order)
		was := answers(l, order)
		if now := answers(l, order); now != was || !slices.Equal(l, points) || !slices.Equal(order, numbers) {
			t.Errorf("of %v: %s, then %s", points, was, now)
		}
	}
}

// R3: nothing of what was handed in is kept: a program stays as it is when the points and the order are changed behind the call.
func TestNothingIsKept(t *testing.T) {
	m := maker(56)
	for _, l := range m.lists(2) {
		order, points := m.order(len(l)), slices.Clone(l)
		p := ordered(t, l, order)
		q, best, _ := synth.Best(l)
		was := fmt.Sprint(p, q, best)
		clear(l)
		clear(order)
		if now := fmt.Sprint(p, q, best); now != was {
			t.Errorf("of %v: %s, then %s", points, was, now)
		}
	}
}

// R5: what is answered hangs on the arguments alone, asked by several goroutines at one time.
func TestAtOnce(t *testing.T) {
	m := maker(57)
	l := m.points(9, 6)
	order := m.order(9)
	p := program(t, l)
	was := answers(l, order)
	var all sync.WaitGroup
	for range 8 {
		all.Go(func() {
			for range 5 {
				if now := answers(l, order); now != was {
					t.Errorf("%s, not %s", now, was)
				}
				if is, e := synth.Interpolates(p, l); !is || e != api.OK {
					t.Errorf("Interpolates: %v, %v", is, e)
				}
			}
		})
	}
	all.Wait()
	if q := program(t, l); !prog.Same(p, q) {
		t.Errorf("%s, then %s", show(p), show(q))
	}
}
