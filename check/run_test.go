package check_test

import (
	"math/big"
	"slices"
	"testing"

	"swage/api"
	"swage/check"
	"swage/exact"
	"swage/integer"
)

// product is what a unit answers of coefficients, by the machine of these tests; false, if a program fails.
func product(u api.Unit, a, b []*big.Int) ([]*big.Int, bool) {
	x, fine := run(u.Left, a)
	if !fine {
		return nil, false
	}
	y, fine := run(u.Right, b)
	if !fine || len(y) != len(x) {
		return nil, false
	}
	var l []*big.Int
	for k, v := range x {
		l = append(l, new(big.Int).Mul(v, y[k]))
	}
	return run(u.Back, l)
}

// productByExact is the same by the project's own runs.
func productByExact(u api.Unit, a, b []*big.Int) ([]integer.Int, api.Errno) {
	x, _, e := exact.Run(u.Left, integers(a))
	if e != api.OK {
		return nil, e
	}
	y, _, e := exact.Run(u.Right, integers(b))
	if e != api.OK {
		return nil, e
	}
	var l []integer.Int
	for k, v := range x {
		l = append(l, v.Mul(y[k]))
	}
	c, _, e := exact.Run(u.Back, l)
	return c, e
}

// amounts are the numbers on which units are run: 0, small ones and such at which a narrower number would turn, and great ones.
func amounts() []*big.Int {
	l := numbers(0, 1, 2, 3, 7, 1<<31, 1<<32, 1<<32-1, 1<<62, 1<<63-1)
	for _, n := range []uint{63, 64, 65, 127, 1000} {
		v := new(big.Int).Lsh(big.NewInt(1), n)
		l = append(l, v, new(big.Int).Sub(v, big.NewInt(1)), new(big.Int).Add(v, big.NewInt(1)))
	}
	return l
}

// operand are k coefficients: by its number all 0, all of one sign, one alone that is not 0, or as they come.
func (m *maker) operand(k, kind int) []*big.Int {
	all := amounts()
	l := numbers(make([]int64, k)...)
	for j := range l {
		v := new(big.Int).Set(all[m.below(len(all))])
		switch kind {
		case 1:
			l[j] = v
		case 2:
			l[j] = v.Neg(v)
		case 3:
			l[j] = big.NewInt(int64(m.below(41) - 20))
		case 4:
			if j == k/2 {
				l[j] = v.Neg(v)
			}
		case 5:
			if m.below(2) == 0 {
				v.Neg(v)
			}
			l[j] = v
		}
	}
	return l
}

// holdProducts tells what is wrong, unless a unit multiplies operands of all kinds.
func holdProducts(t *testing.T, m *maker, u api.Unit) {
	t.Helper()
	for kind := range 36 {
		a, b := m.operand(u.K1, kind%6), m.operand(u.K2, kind/6)
		want := convolution(a, b)
		if c, fine := product(u, a, b); !fine || !equalRow(c, want) {
			t.Fatalf("%s on %v and %v: %v, %v, not %v", show(u), a, b, c, fine, want)
		}
		c, e := productByExact(u, a, b)
		if e != api.OK || !slices.EqualFunc(c, integers(want), func(x, y integer.Int) bool { return x.Cmp(y) == 0 }) {
			t.Fatalf("%s on %v and %v: exact.Run: %v, %v, not %v", show(u), a, b, c, e, want)
		}
	}
}

// P18.6: units that are accepted run without failing, on whatever numbers, and answer the coefficients of the product; a register that is not there would end the machine of these tests.
func TestAcceptedUnitsMultiply(t *testing.T) {
	m := maker(1806)
	great := []api.Unit{compiled(t, 8, 8, "16 -16 15/16 -15/16 13/11 -13/11 14/13 16/15 -16/15 11/16 -11/16 13/16 16/13 (15:-14) inf"), raw(t, 8, 8, "0 1 -1 2 -2 3 -3 4 -4 5 -5 6 -6 7 inf"), compiled(t, 1, 8, "(16:16) (-16:16) (0:-16) (-16:0) (8:16) (12:16) (16:12) (-16:12)"), compiled(t, 1, 1, "(3:-6)")}
	for _, x := range append(right(t, 188, 40, 9), great...) {
		u, spot := check.Accept(encoded(t, x))
		if spot != (api.Spot{}) {
			t.Fatalf("%s: %v", show(x), spot)
		}
		holdProducts(t, &m, u)
	}
}

// P18.6: what Passed tells multiplies, too.
func TestPassedUnitsMultiply(t *testing.T) {
	m := maker(1816)
	for _, u := range right(t, 189, 2, 7) {
		for _, v := range check.Passed(u) {
			holdProducts(t, &m, v)
		}
	}
}

// P18.6: so do units that were changed at random and are accepted all the same; those that are refused with ErrWrong at Back, though it has as many inputs and outs as it must, fail on some numbers, or answer something else.
func TestChangedUnitsMultiply(t *testing.T) {
	m := maker(1826)
	accepted, refused := 0, 0
	for _, x := range right(t, 190, 150, 5) {
		for range 4 {
			u := m.change(x)
			k, e := check.Unit(u)
			switch n := u.K1 + u.K2 - 1; {
			case e == api.OK:
				holdProducts(t, &m, u)
				accepted++
			case k == 3 && e == api.ErrWrong && u.Back.Ins == n && len(u.Back.Outs) == n:
				holdUnlike(t, u)
				refused++
			}
		}
	}
	if accepted < 100 || refused < 100 {
		t.Errorf("%d accepted, %d refused", accepted, refused)
	}
}

// holdUnlike tells what is wrong, if Back finds each one of the polynomials with a single 1 from its values.
func holdUnlike(t *testing.T, u api.Unit) {
	t.Helper()
	n := len(u.Points)
	rows := grid(u.Points, n)
	for k, want := range units(n) {
		var values []*big.Int
		for _, r := range rows {
			values = append(values, r[k])
		}
		if c, fine := run(u.Back, values); !fine || !equalRow(c, want) {
			return
		}
	}
	t.Errorf("%s is refused", show(u))
}
